/- Signals, plainly: lengths, Gaussian numbers alone. -/
import Derived.Test.YtfjhocmnafdnfaaGau
import Derived.Test.YtfjhocmnafdnfaaGsn
namespace Go.Proofs.Ytfjhocmnafdnfaa

set_option maxRecDepth 100000
def tfSz (n : Nat) : Bool := decide (n = 1 ∨ n = 4 ∨ n = 16)
def goodL (l : List (Int × Int)) : Bool := l.all (fun p => good p.1 p.2)
def tfOk (l : List (Int × Int)) : Bool := tfSz l.length && goodL l
theorem goodL_take_succ (l : List (Int × Int)) (k : Nat) (h : k < l.length) (h1 : goodL (l.take k) = true) (h2 : good (gre l k) (gim l k) = true) : goodL (l.take (k + 1)) = true := by
  unfold goodL at *
  rw [List.take_succ_eq_append_getElem h, List.all_append, h1]
  simpa [gre, gim, List.getD, h] using h2
theorem goodL_false (l : List (Int × Int)) (k : Nat) (h : k < l.length) (h2 : good (gre l k) (gim l k) = false) : goodL l = false := by
  unfold goodL
  rw [List.all_eq_false]
  exact ⟨l[k], List.getElem_mem h, by simpa [gre, gim, List.getD, h] using h2⟩
theorem goodL_at {l : List (Int × Int)} (h : goodL l = true) (k : Nat) (hk : k < l.length) : good (gre l k) (gim l k) = true := by
  unfold goodL at h
  have := List.all_eq_true.1 h l[k] (List.getElem_mem hk)
  simpa [gre, gim, List.getD, hk] using this
theorem good_in {a b : Int} (h : good a b = true) : (-1000000 ≤ a ∧ a ≤ 1000000) ∧ (-1000000 ≤ b ∧ b ≤ 1000000) := by
  simpa [good] using h
theorem tfSz_cases {n : Nat} (h : tfSz n = true) : n = 1 ∨ n = 4 ∨ n = 16 := of_decide_eq_true h
theorem tfOk_sz {l : List (Int × Int)} (h : tfOk l = true) : tfSz l.length = true := by
  unfold tfOk at h; exact (Bool.and_eq_true_iff.1 h).1
theorem tfOk_good {l : List (Int × Int)} (h : tfOk l = true) : goodL l = true := by
  unfold tfOk at h; exact (Bool.and_eq_true_iff.1 h).2
theorem tfOk_len {l : List (Int × Int)} (h : tfOk l = true) : 1 ≤ l.length ∧ l.length ≤ 16 := by
  have := tfSz_cases (tfOk_sz h); omega
end Go.Proofs.Ytfjhocmnafdnfaa
