/- One step of a transform, as the model sums it. -/
import Derived.Test.YtgibdndckoapfaaDrM
namespace Go.Proofs.Ytgibdndckoapfaa

set_option maxRecDepth 100000
def spT (l : List (Int × Int)) (s k j : Nat) : Int × Int := dtT ((3 * (k / s % 4 * j) % 4 : Nat) : Int) (gre l (k / (4 * s) * (4 * s) + k % s + j * s), gim l (k / (4 * s) * (4 * s) + k % s + j * s))
def spX (l : List (Int × Int)) (s j k : Nat) : Int := sumN (fun d => (spT l s k d).1) j
def spY (l : List (Int × Int)) (s j k : Nat) : Int := sumN (fun d => (spT l s k d).2) j
def spL (l : List (Int × Int)) (s : Nat) : List (Int × Int) := genG l.length (spX l s 4) (spY l s 4)
theorem sp_index {n s : Nat} (hs : s = 1 ∨ s = 4) (hn : n % (4 * s) = 0) (k j : Nat) (hk : k < n) (hj : j < 4) : k / (4 * s) * (4 * s) + k % s + j * s < n := by
  rcases hs with rfl | rfl <;> omega
theorem spT_le {l : List (Int × Int)} {s : Nat} (h : ∀ i, i < l.length → (-1000000 ≤ gre l i ∧ gre l i ≤ 1000000) ∧ (-1000000 ≤ gim l i ∧ gim l i ≤ 1000000)) (hs : s = 1 ∨ s = 4) (hn : l.length % (4 * s) = 0) (k j : Nat) (hk : k < l.length) (hj : j < 4) :
    (-1000000 ≤ (spT l s k j).1 ∧ (spT l s k j).1 ≤ 1000000) ∧ (-1000000 ≤ (spT l s k j).2 ∧ (spT l s k j).2 ≤ 1000000) :=
  dtT_small _ _ 1000000 (h _ (sp_index hs hn k j hk hj)).1 (h _ (sp_index hs hn k j hk hj)).2 (by omega)
theorem spX_le {l : List (Int × Int)} {s : Nat} (h : ∀ i, i < l.length → (-1000000 ≤ gre l i ∧ gre l i ≤ 1000000) ∧ (-1000000 ≤ gim l i ∧ gim l i ≤ 1000000)) (hs : s = 1 ∨ s = 4) (hn : l.length % (4 * s) = 0) (k j : Nat) (hk : k < l.length) (hj : j ≤ 4) :
    (-4000000 ≤ spX l s j k ∧ spX l s j k ≤ 4000000) ∧ (-4000000 ≤ spY l s j k ∧ spY l s j k ≤ 4000000) := by
  have h1 := sumN_upto (fun x => (spT l s k x).1) 1000000 4 (fun x hx => (spT_le h hs hn k x hk hx).1) j hj
  have h2 := sumN_upto (fun x => (spT l s k x).2) 1000000 4 (fun x hx => (spT_le h hs hn k x hk hx).2) j hj
  have e1 : spX l s j k = sumN (fun x => (spT l s k x).1) j := rfl
  have e2 : spY l s j k = sumN (fun x => (spT l s k x).2) j := rfl
  rw [e1, e2]
  omega
theorem sp_st (l : List (Int × Int)) (s : Nat) (hs : s = 1 ∨ s = 4) (p : Nat) : stF 3 4 s (fun i => (gre l i, gim l i)) p = (spX l s 4 p, spY l s 4 p) := by
  have e : ∀ d, btT 3 s (fun i => (gre l (p / (4 * s) * (4 * s) + i), gim l (p / (4 * s) * (4 * s) + i))) (p % (4 * s)) d = spT l s p d := by
    intro d
    unfold btT spT
    have e1 : p % (4 * s) / s = p / s % 4 := by rcases hs with rfl | rfl <;> omega
    have e2 : p % (4 * s) % s = p % s := by rcases hs with rfl | rfl <;> omega
    rw [e1, e2]
    dsimp only
    rw [Nat.add_assoc]
  unfold stF btX btY
  exact Prod.ext (sumN_congr' (fun d _ => by rw [e d])) (sumN_congr' (fun d _ => by rw [e d]))
def tsV (l : List (Int × Int)) (p : Int) : Bool := tfOk l && decide ((p = 0 ∧ 1 < l.length) ∨ (p = 1 ∧ 4 < l.length))
def tsS (p : Int) : Nat := if p = 0 then 1 else 4
def tsOk (l : List (Int × Int)) (p : Int) : Bool := tsV l p && goodL (spL l (tsS p))
def tsA (l : List (Int × Int)) (p : Int) : List (Int × Int) := if tsOk l p then spL l (tsS p) else []
theorem spL_len (l : List (Int × Int)) (s : Nat) : (spL l s).length = l.length := genG_length _ _ _
theorem tsA_len (l : List (Int × Int)) (p : Int) : (tsA l p).length ≤ 1048576 := by
  unfold tsA
  cases h : tsOk l p with
  | false => simp
  | true =>
    unfold tsOk tsV at h
    have := tfOk_len (Bool.and_eq_true_iff.1 (Bool.and_eq_true_iff.1 h).1).1
    rw [if_pos rfl, spL_len]
    omega
end Go.Proofs.Ytgibdndckoapfaa
