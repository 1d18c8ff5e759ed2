/- Moves and waves, plainly. -/
import Derived.Test.YtfjhocmnafdnfaaPlM
import Derived.Test.YtfjhocmnafdnfaaPhs
namespace Go.Proofs.Ytfjhocmnafdnfaa

set_option maxRecDepth 100000
def mvOk (l : List (Int × Int)) (b : Int) : Bool := tfOk l && decide (0 ≤ b ∧ b < l.length)
def mvL (l : List (Int × Int)) (b : Int) : List (Int × Int) := genG l.length (fun x => gre l (adP x b.toNat)) (fun x => gim l (adP x b.toNat))
def mvA (l : List (Int × Int)) (b : Int) : List (Int × Int) := if mvOk l b then mvL l b else []
theorem mvA_len (l : List (Int × Int)) (b : Int) : (mvA l b).length ≤ 1048576 := by
  unfold mvA
  cases h : mvOk l b with
  | false => simp
  | true =>
    have h2 : tfOk l = true := by unfold mvOk at h; exact (Bool.and_eq_true_iff.1 h).1
    have := tfOk_len h2
    rw [if_pos rfl]
    unfold mvL
    rw [genG_length]
    omega
theorem goodL_gen {n : Nat} {X Y : Nat → Int} (h : ∀ i, i < n → good (X i) (Y i) = true) : goodL (genG n X Y) = true := by
  unfold goodL
  rw [List.all_eq_true]
  intro p hp
  unfold genG at hp
  rw [List.mem_map] at hp
  obtain ⟨i, hi, rfl⟩ := hp
  exact h i (List.mem_range.1 hi)
theorem mvL_good (l : List (Int × Int)) (b : Int) (h : mvOk l b = true) : goodL (mvL l b) = true := by
  unfold mvOk at h
  obtain ⟨h1, h2⟩ := Bool.and_eq_true_iff.1 h
  have h2 := of_decide_eq_true h2
  exact goodL_gen (fun i hi => goodL_at (tfOk_good h1) _ (adP_lt (tfOk_sz h1) i b.toNat hi (by omega)))
def wvOk (n p : Int) : Bool := decide (n = 1 ∨ n = 4 ∨ n = 16) && decide (0 ≤ p ∧ p < n)
def wvA (n p : Int) : List Int := if wvOk n p then gen n.toNat (fun x => (wvP p.toNat x : Int)) else []
theorem wvA_len (n p : Int) : (wvA n p).length ≤ 1048576 := by
  unfold wvA
  cases h : wvOk n p with
  | false => simp
  | true =>
    unfold wvOk at h
    obtain ⟨h1, -⟩ := Bool.and_eq_true_iff.1 h
    have h1 := of_decide_eq_true h1
    rw [if_pos rfl, gen_length]
    omega
end Go.Proofs.Ytfjhocmnafdnfaa
