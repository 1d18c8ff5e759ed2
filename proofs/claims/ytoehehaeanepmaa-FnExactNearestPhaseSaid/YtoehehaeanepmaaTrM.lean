/- Transforms by steps, plainly. -/
import Derived.Test.YtoehehaeanepmaaDeM
namespace Go.Proofs.Ytoehehaeanepmaa

set_option maxRecDepth 100000
/-- The term d of a butterfly at the place p of a cut, for the weight s. -/
def btT (w s : Nat) (Z : Nat → Int × Int) (p d : Nat) : Int × Int := dtT ((w * (p / s * d) % 4 : Nat) : Int) (Z (p % s + d * s))
def btX (w s : Nat) (Z : Nat → Int × Int) (p k : Nat) : Int := sumN (fun d => (btT w s Z p d).1) k
def btY (w s : Nat) (Z : Nat → Int × Int) (p k : Nat) : Int := sumN (fun d => (btT w s Z p d).2) k
theorem btX_succ (w s : Nat) (Z : Nat → Int × Int) (p k : Nat) : btX w s Z p (k + 1) = btX w s Z p k + (btT w s Z p k).1 := rfl
theorem btY_succ (w s : Nat) (Z : Nat → Int × Int) (p k : Nat) : btY w s Z p (k + 1) = btY w s Z p k + (btT w s Z p k).2 := rfl
/-- Parts up to M. -/
def upTo (Z : Nat → Int × Int) (n : Nat) (M : Int) : Prop := ∀ i, i < n → (-M ≤ (Z i).1 ∧ (Z i).1 ≤ M) ∧ (-M ≤ (Z i).2 ∧ (Z i).2 ≤ M)
theorem bt_index (s b p d : Nat) (hs : 0 < s) (hd : d < b) : p % s + d * s < b * s := by
  have h1 := Nat.mod_lt p hs
  have h2 : (d + 1) * s ≤ b * s := Nat.mul_le_mul_right _ (by omega)
  rw [Nat.add_mul] at h2
  omega
theorem bt_part (s d p : Nat) (hs : 0 < s) : (p % s + d * s) / s = d := by
  rw [Nat.add_mul_div_right _ _ hs, Nat.div_eq_of_lt (Nat.mod_lt p hs), Nat.zero_add]
theorem btT_le {w s b : Nat} {Z : Nat → Int × Int} {M : Int} (hs : 0 < s) (h : upTo Z (b * s) M) (p d : Nat) (hd : d < b) : (-M ≤ (btT w s Z p d).1 ∧ (btT w s Z p d).1 ≤ M) ∧ (-M ≤ (btT w s Z p d).2 ∧ (btT w s Z p d).2 ≤ M) := by
  have hz := h _ (bt_index s b p d hs hd)
  exact dtT_small _ _ M hz.1 hz.2 (by omega)
theorem bt_le {w s b : Nat} {Z : Nat → Int × Int} {M : Int} (hs : 0 < s) (h : upTo Z (b * s) M) (p k : Nat) (hk : k ≤ b) : (-((k : Int) * M) ≤ btX w s Z p k ∧ btX w s Z p k ≤ (k : Int) * M) ∧ (-((k : Int) * M) ≤ btY w s Z p k ∧ btY w s Z p k ≤ (k : Int) * M) :=
  ⟨sumN_upto _ M b (fun d hd => (btT_le hs h p d hd).1) k hk, sumN_upto _ M b (fun d hd => (btT_le hs h p d hd).2) k hk⟩
/-- A step at the weight s. -/
def stF (w b s : Nat) (Z : Nat → Int × Int) : Nat → Int × Int := fun p =>
  (btX w s (fun i => Z (p / (b * s) * (b * s) + i)) (p % (b * s)) b, btY w s (fun i => Z (p / (b * s) * (b * s) + i)) (p % (b * s)) b)
theorem stF_at (w b s : Nat) (Z : Nat → Int × Int) (c p : Nat) (hp : p < b * s) : stF w b s Z (c * (b * s) + p) = (btX w s (fun i => Z (c * (b * s) + i)) p b, btY w s (fun i => Z (c * (b * s) + i)) p b) := by
  have hpos : 0 < b * s := by omega
  have h1 : (c * (b * s) + p) / (b * s) = c := by rw [Nat.mul_comm, Nat.mul_add_div hpos, Nat.div_eq_of_lt hp, Nat.add_zero]
  have h2 : (c * (b * s) + p) % (b * s) = p := by rw [Nat.mul_comm, Nat.mul_add_mod, Nat.mod_eq_of_lt hp]
  unfold stF
  rw [h1, h2]
/-- The first k steps, of weights 1, b, b² .. -/
def trF (w b : Nat) : Nat → (Nat → Int × Int) → Nat → Int × Int
  | 0, Z => Z
  | k + 1, Z => stF w b (b ^ k) (trF w b k Z)
theorem upTo_part {Z : Nat → Int × Int} {n : Nat} {M : Int} (h : upTo Z n M) (c m : Nat) (hc : c + m ≤ n) : upTo (fun i => Z (c + i)) m M := fun i hi => h (c + i) (by omega)
theorem stF_le {w b s n : Nat} {Z : Nat → Int × Int} {M : Int} (hs : 0 < b * s) (hn : n % (b * s) = 0) (h : upTo Z n M) : upTo (stF w b s Z) n ((b : Int) * M) := by
  intro p hp
  have hs2 : 0 < s := Nat.pos_of_mul_pos_left hs
  have hc : p / (b * s) * (b * s) + b * s ≤ n := by
    have h1 : p / (b * s) < n / (b * s) := by
      obtain ⟨q, hq⟩ : ∃ q, n = b * s * q := ⟨n / (b * s), by have := Nat.div_add_mod n (b * s); omega⟩
      subst hq
      rw [Nat.mul_div_cancel_left q hs]
      exact Nat.div_lt_of_lt_mul hp
    have h2 : (p / (b * s) + 1) * (b * s) ≤ n / (b * s) * (b * s) := Nat.mul_le_mul_right _ (by omega)
    have h3 : n / (b * s) * (b * s) ≤ n := Nat.div_mul_le_self _ _
    rw [Nat.add_mul] at h2
    omega
  exact bt_le hs2 (upTo_part h _ _ hc) (p % (b * s)) b (Nat.le_refl _)
end Go.Proofs.Ytoehehaeanepmaa
