/- Codes and signals of messages: plain mathematics. Matches: plain mathematics. Orthogonal codes: plain mathematics. Signals that are heard, peaks: plain mathematics. -/
import Derived.Test.YtfjhocmnafdnfaaRw
import Derived.Test.YtfjhocmnafdnfaaKit
import Derived.Test.YtfjhocmnafdnfaaMdP
import Derived.Test.YtfjhocmnafdnfaaMaX
namespace Go.Proofs.Ytfjhocmnafdnfaa
set_option maxRecDepth 100000
section

/-- A code. -/
def cdOk (s : List Int) : Bool := isSeq s && decide (1 ≤ s.length)
/-- The number of phases of codes. -/
def cdN (m : List (List Int)) : Nat := (m.getD 0 []).length
def cdRow (n : Nat) (s : List Int) : Bool := cdOk s && decide (s.length = n)
def cdsOk (m : List (List Int)) : Bool := decide (1 ≤ m.length ∧ m.length ≤ 8) && m.all (cdRow (cdN m))
theorem cdsOk_size {m : List (List Int)} (h : ¬ (1 ≤ m.length ∧ m.length ≤ 8)) : cdsOk m = false := by unfold cdsOk; rw [decide_eq_false h]; rfl
theorem cdsOk_row {m : List (List Int)} (i : Nat) (hi : i < m.length) (h : cdRow (cdN m) (m.getD i []) = false) : cdsOk m = false := by
  have : m.all (cdRow (cdN m)) = false := by
    rw [List.all_eq_false]
    exact ⟨m.getD i [], by rw [getD_at m i hi]; exact List.getElem_mem hi, by rw [h]; exact Bool.false_ne_true⟩
  unfold cdsOk; rw [this, Bool.and_false]
theorem cdsOk_yes {m : List (List Int)} (h : 1 ≤ m.length ∧ m.length ≤ 8) (h2 : ∀ i, i < m.length → cdRow (cdN m) (m.getD i []) = true) : cdsOk m = true := by
  unfold cdsOk
  rw [decide_eq_true h, Bool.true_and, List.all_eq_true]
  intro r hr
  obtain ⟨i, hi, rfl⟩ := List.getElem_of_mem hr
  rw [← getD_at m i hi]
  exact h2 i hi
theorem cdsOk_parts {m : List (List Int)} (h : cdsOk m = true) : (1 ≤ m.length ∧ m.length ≤ 8) ∧ ∀ i, i < m.length → cdOk (m.getD i []) = true ∧ (m.getD i []).length = cdN m := by
  unfold cdsOk at h
  rw [Bool.and_eq_true] at h
  refine ⟨of_decide_eq_true h.1, fun i hi => ?_⟩
  have := List.all_eq_true.1 h.2 (m.getD i []) (by rw [getD_at m i hi]; exact List.getElem_mem hi)
  unfold cdRow at this
  rw [Bool.and_eq_true] at this
  exact ⟨this.1, of_decide_eq_true this.2⟩
theorem cdOk_seq {s : List Int} (h : cdOk s = true) : isSeq s = true ∧ 1 ≤ s.length := by
  unfold cdOk at h
  rw [Bool.and_eq_true] at h
  exact ⟨h.1, of_decide_eq_true h.2⟩
theorem cdOk_len {s : List Int} (h : cdOk s = true) : 1 ≤ s.length ∧ s.length ≤ 32 := ⟨(cdOk_seq h).2, isSeq_len (cdOk_seq h).1⟩
theorem cdN_len {m : List (List Int)} (h : cdsOk m = true) : 1 ≤ cdN m ∧ cdN m ≤ 32 := by
  have h1 := cdsOk_parts h
  have h2 := cdOk_len (h1.2 0 (by omega)).1
  exact h2
/-- Which refusal. -/
def kOf (ok : Bool) : Nat := if ok then 0 else 1
theorem kOf_true : kOf true = 0 := rfl
theorem kOf_false : kOf false = 1 := rfl
theorem kOf_zero {b : Bool} : (kOf b == 0) = b := by cases b <;> rfl
end
section
open Go.RowKit

/-- The match of k numbers with a code, its two parts. -/
def maX (X Y : Nat → Int) (s : List Int) (k : Nat) : Int := sumN (fun i => nrX (X i) (Y i) (s.getD i 0).toNat) k
def maY (X Y : Nat → Int) (s : List Int) (k : Nat) : Int := sumN (fun i => nrY (X i) (Y i) (s.getD i 0).toNat) k
theorem sumN_le (g : Nat → Int) (B : Int) (n : Nat) (h : ∀ i, i < n → -B ≤ g i ∧ g i ≤ B) (k : Nat) (hk : k ≤ n) : -((k : Int) * B) ≤ sumN g k ∧ sumN g k ≤ (k : Int) * B := by
  induction k with
  | zero => simp [sumN]
  | succ k ih =>
    have h1 := ih (by omega)
    have h2 := h k (by omega)
    have e : ((k + 1 : Nat) : Int) * B = k * B + B := by rw [Int.natCast_add, Int.add_mul]; simp
    simp only [sumN]
    omega
theorem ma_le (X Y : Nat → Int) (s : List Int) (n : Nat) (hn : n ≤ 32) (h : ∀ i, i < n → (-1000000 ≤ X i ∧ X i ≤ 1000000) ∧ (-1000000 ≤ Y i ∧ Y i ≤ 1000000)) (k : Nat) (hk : k ≤ n) :
    (-32000000 ≤ maX X Y s k ∧ maX X Y s k ≤ 32000000) ∧ (-32000000 ≤ maY X Y s k ∧ maY X Y s k ≤ 32000000) := by
  have h1 := sumN_le (fun i => nrX (X i) (Y i) (s.getD i 0).toNat) 1000000 n (fun i hi => (nr_le (h i hi).1 (h i hi).2 _).1) k hk
  have h2 := sumN_le (fun i => nrY (X i) (Y i) (s.getD i 0).toNat) 1000000 n (fun i hi => (nr_le (h i hi).1 (h i hi).2 _).2) k hk
  unfold maX maY
  omega
theorem sq32 {x : Int} (h : -32000000 ≤ x ∧ x ≤ 32000000) : 0 ≤ x * x ∧ x * x ≤ 1024000000000000 := by
  refine ⟨?_, ?_⟩
  · rcases Int.le_total 0 x with h0 | h0
    · exact Int.mul_nonneg h0 h0
    · exact Int.mul_nonneg_of_nonpos_of_nonpos h0 h0
  · have e : x * x = (x.natAbs : Int) * x.natAbs := (Int.natAbs_mul_self' x).symm
    have h1 : x.natAbs ≤ 32000000 := by omega
    have h2 : x.natAbs * x.natAbs ≤ 32000000 * 32000000 := Nat.mul_le_mul h1 h1
    rw [e, ← Int.natCast_mul]
    omega
theorem norm32 {x y : Int} (h1 : -32000000 ≤ x ∧ x ≤ 32000000) (h2 : -32000000 ≤ y ∧ y ≤ 32000000) : 0 ≤ norm x y ∧ norm x y ≤ 2048000000000000 := by
  have h3 := sq32 h1
  have h4 := sq32 h2
  unfold norm
  omega
/-- A number times the values of a code. -/
def tvX (x y : Int) (s : List Int) (i : Nat) : Int := mulX x y (vx (s.getD i 0)) (vy (s.getD i 0))
def tvY (x y : Int) (s : List Int) (i : Nat) : Int := mulY x y (vx (s.getD i 0)) (vy (s.getD i 0))
/-- The match of the values of one code with another one: its two parts, its norm. -/
def dtX (a b : List Int) : Int := maX (tvX 1 0 a) (tvY 1 0 a) b a.length
def dtY (a b : List Int) : Int := maY (tvX 1 0 a) (tvY 1 0 a) b a.length
def dtN (a b : List Int) : Int := norm (dtX a b) (dtY a b)
theorem norm_zero {x y : Int} : norm x y = 0 ↔ x = 0 ∧ y = 0 := by
  unfold norm
  constructor
  · intro h
    have hx : 0 ≤ x * x := by rcases Int.le_total 0 x with h0 | h0; exact Int.mul_nonneg h0 h0; exact Int.mul_nonneg_of_nonpos_of_nonpos h0 h0
    have hy : 0 ≤ y * y := by rcases Int.le_total 0 y with h0 | h0; exact Int.mul_nonneg h0 h0; exact Int.mul_nonneg_of_nonpos_of_nonpos h0 h0
    have e1 : x * x = 0 := by omega
    have e2 : y * y = 0 := by omega
    exact ⟨by rcases Int.mul_eq_zero.1 e1 with h | h <;> exact h, by rcases Int.mul_eq_zero.1 e2 with h | h <;> exact h⟩
  · rintro ⟨rfl, rfl⟩; rfl
theorem tv_le {x y B : Int} (h1 : -B ≤ x ∧ x ≤ B) (h2 : -B ≤ y ∧ y ≤ B) {s : List Int} (hs : allIn s 0 3 = true) (i : Nat) (hi : i < s.length) : (-B ≤ tvX x y s i ∧ tvX x y s i ≤ B) ∧ (-B ≤ tvY x y s i ∧ tvY x y s i ≤ B) :=
  tu_le h1 h2 (allIn_getD hs i hi)
/-- In terms of the sums over differences of phases: one index. -/
theorem dt_term (a b : Int) (ha : 0 ≤ a ∧ a ≤ 3) (hb : 0 ≤ b ∧ b ≤ 3) : nrX (mulX 1 0 (vx a) (vy a)) (mulY 1 0 (vx a) (vy a)) b.toNat = vx ((a - b) % 4) ∧ nrY (mulX 1 0 (vx a) (vy a)) (mulY 1 0 (vx a) (vy a)) b.toNat = vy ((a - b) % 4) := by
  have h1 : a = 0 ∨ a = 1 ∨ a = 2 ∨ a = 3 := by omega
  have h2 : b = 0 ∨ b = 1 ∨ b = 2 ∨ b = 3 := by omega
  rcases h1 with rfl | rfl | rfl | rfl <;> rcases h2 with rfl | rfl | rfl | rfl <;> decide
theorem dt_ap {a b : List Int} (ha : isSeq a = true) (hb : isSeq b = true) (hab : a.length = b.length) : apS vx a b 0 = dtX a b ∧ apS vy a b 0 = dtY a b := by
  have key : ∀ i, i < a.length → apT vx a b 0 i = nrX (tvX 1 0 a i) (tvY 1 0 a i) (b.getD i 0).toNat ∧ apT vy a b 0 i = nrY (tvX 1 0 a i) (tvY 1 0 a i) (b.getD i 0).toNat := fun i hi => by
    have h1 := allIn_getD (isSeq_all ha) i hi
    have h2 := allIn_getD (isSeq_all hb) i (by omega)
    have h := dt_term _ _ h1 h2
    rw [apT_in vx a b 0 i i (by omega) hi, apT_in vy a b 0 i i (by omega) hi]
    exact ⟨h.1.symm, h.2.symm⟩
  have e1 : apS vx a b 0 = sumN (apT vx a b 0) b.length := rfl
  have e2 : apS vy a b 0 = sumN (apT vy a b 0) b.length := rfl
  rw [e1, e2, ← hab]
  exact ⟨sumN_ext _ _ _ (fun i hi => (key i hi).1), sumN_ext _ _ _ (fun i hi => (key i hi).2)⟩
end
section
open Go.RowKit

/-- What a slice of the call's own has: room for what it holds. -/
def capOk : Value → Prop
  | .slice _ n c => n ≤ c
  | _ => False
theorem ownsRow_cap {w : World} {B z n : Nat} {E : TypeId} {v : Value} {xs : List Value} (h : w.ownsRow B E z v n xs) : capOk v := by
  rcases h.2 with ⟨rfl, _⟩ | ⟨g, cap, cur, rfl, hg, hh, hn, rest⟩
  · exact Nat.le_refl _
  · exact hn
theorem OwnR.capOk {w : World} {B : Nat} {v : Value} {ll : List (List Int)} (h : OwnR w B v ll) : capOk v := by
  obtain ⟨rs, h, -, -⟩ := h
  exact ownsRow_cap h
/-- Codes i and j are orthogonal. -/
def oxB (m : List (List Int)) (i j : Nat) : Bool := decide (dtN (m.getD i []) (m.getD j []) = 0)
def oxRow (m : List (List Int)) (i k : Nat) : Bool := (List.range k).all (oxB m i)
def oxUp (m : List (List Int)) (k : Nat) : Bool := (List.range k).all (fun i => oxRow m i i)
/-- Each two are orthogonal. -/
def orB (m : List (List Int)) : Bool := oxUp m m.length
theorem oxRow_succ (m : List (List Int)) (i k : Nat) : oxRow m i (k + 1) = (oxRow m i k && oxB m i k) := by unfold oxRow; rw [List.range_succ, List.all_append]; simp
theorem oxUp_succ (m : List (List Int)) (k : Nat) : oxUp m (k + 1) = (oxUp m k && oxRow m k k) := by unfold oxUp; rw [List.range_succ, List.all_append]; simp
theorem oxRow_no {m : List (List Int)} {i j k : Nat} (hj : j < k) (h : oxB m i j = false) : oxRow m i k = false := by
  unfold oxRow
  rw [List.all_eq_false]
  exact ⟨j, List.mem_range.2 hj, by rw [h]; exact Bool.false_ne_true⟩
theorem oxUp_no {m : List (List Int)} {i k : Nat} (hi : i < k) (h : oxRow m i i = false) : oxUp m k = false := by
  unfold oxUp
  rw [List.all_eq_false]
  exact ⟨i, List.mem_range.2 hi, by simp only [h]; exact Bool.false_ne_true⟩
theorem orB_no {m : List (List Int)} {i j : Nat} (hi : i < m.length) (hj : j < i) (h : oxB m i j = false) : orB m = false := oxUp_no hi (oxRow_no hj h)
/-- All of them codes of one length. -/
def AllN (m : List (List Int)) (N : Nat) : Prop := ∀ i, i < m.length → isSeq (m.getD i []) = true ∧ (m.getD i []).length = N
theorem cdsOk_allN {m : List (List Int)} (h : cdsOk m = true) : AllN m (cdN m) := fun i hi => ⟨(cdOk_seq ((cdsOk_parts h).2 i hi).1).1, ((cdsOk_parts h).2 i hi).2⟩
theorem oxB_eq (m : List (List Int)) (i j : Nat) : oxB m i j = (decide (dtX (m.getD i []) (m.getD j []) = 0) && decide (dtY (m.getD i []) (m.getD j []) = 0)) := by
  unfold oxB dtN
  rw [← Bool.decide_and]
  exact decide_eq_decide.2 norm_zero
/-- What is told of codes. -/
def aoK (m : List (List Int)) : Nat := if cdsOk m then (if orB m then 0 else 2) else 1
def aoB (m : List (List Int)) : Bool := cdsOk m && orB m
/-- The norms of all matches. -/
def diL (m : List (List Int)) : List (List Int) := genR m.length (fun i => gen m.length (fun j => dtN (m.getD i []) (m.getD j [])))
def diA (m : List (List Int)) : List (List Int) := if cdsOk m then diL m else []
theorem diA_tot (m : List (List Int)) : tot (diA m) ≤ 1048576 := by
  unfold diA
  split
  · rename_i h
    have h8 := (cdsOk_parts h).1.2
    have := tot_genR m.length 8 (fun i => gen m.length (fun j => dtN (m.getD i []) (m.getD j []))) (fun i _ => by rw [gen_length]; exact h8)
    unfold diL
    omega
  · simp [tot]
theorem dt_good {a b : List Int} (ha : isSeq a = true) : good (dtX a b) (dtY a b) = true := by
  have h := ma_le (tvX 1 0 a) (tvY 1 0 a) b a.length (isSeq_len ha) (fun i hi => tv_le (B := 1000000) (by decide) (by decide) (isSeq_all ha) i hi) a.length (Nat.le_refl _)
  have h1 := sumN_le (fun i => nrX (tvX 1 0 a i) (tvY 1 0 a i) (b.getD i 0).toNat) 1 a.length (fun i hi => (nr_le (tv_le (B := 1) (by decide) (by decide) (isSeq_all ha) i hi).1 (tv_le (B := 1) (by decide) (by decide) (isSeq_all ha) i hi).2 _).1) a.length (Nat.le_refl _)
  have h2 := sumN_le (fun i => nrY (tvX 1 0 a i) (tvY 1 0 a i) (b.getD i 0).toNat) 1 a.length (fun i hi => (nr_le (tv_le (B := 1) (by decide) (by decide) (isSeq_all ha) i hi).1 (tv_le (B := 1) (by decide) (by decide) (isSeq_all ha) i hi).2 _).2) a.length (Nat.le_refl _)
  have h32 := isSeq_len ha
  have e1 : dtX a b = sumN (fun i => nrX (tvX 1 0 a i) (tvY 1 0 a i) (b.getD i 0).toNat) a.length := rfl
  have e2 : dtY a b = sumN (fun i => nrY (tvX 1 0 a i) (tvY 1 0 a i) (b.getD i 0).toNat) a.length := rfl
  rw [← e1] at h1
  rw [← e2] at h2
  unfold good
  simp
  omega
end
section
open Go.RowKit

/-- A signal of messages. -/
def hdOk (l : List (Int × Int)) : Bool := decide (l.length ≤ 64) && goodL l
theorem hdOk_len {l : List (Int × Int)} (h : hdOk l = true) : l.length ≤ 64 := by unfold hdOk at h; rw [Bool.and_eq_true] at h; exact of_decide_eq_true h.1
theorem hdOk_good {l : List (Int × Int)} (h : hdOk l = true) : goodL l = true := by unfold hdOk at h; rw [Bool.and_eq_true] at h; exact h.2
theorem goodL_all8 (l : List (Int × Int)) (h : ∀ i, i < l.length → good (gre l i) (gim l i) = true) : goodL l = true := by
  unfold goodL
  rw [List.all_eq_true]
  intro p hp
  obtain ⟨i, hi, rfl⟩ := List.getElem_of_mem hp
  have := h i hi
  simpa [gre, gim, List.getD, hi] using this
def nmN (l : List (Int × Int)) (i : Nat) : Int := norm (gre l i) (gim l i)
def pkV (l : List (Int × Int)) : Int := maxN (nmN l) l.length
def pkF (l : List (Int × Int)) : Int := if hdOk l then pkV l else 0
end
section
open Go.RowKit
/-! ### matches of signals -/
/-- The match of a signal with a code from an index on. -/
def mtX (l : List (Int × Int)) (s : List Int) (o : Nat) : Int := maX (fun i => gre l (o + i)) (fun i => gim l (o + i)) s s.length
def mtY (l : List (Int × Int)) (s : List Int) (o : Nat) : Int := maY (fun i => gre l (o + i)) (fun i => gim l (o + i)) s s.length
theorem mt_le {l : List (Int × Int)} {s : List Int} (hg : goodL l = true) (hs : isSeq s = true) (o : Nat) (h : o + s.length ≤ l.length) :
    (-32000000 ≤ mtX l s o ∧ mtX l s o ≤ 32000000) ∧ (-32000000 ≤ mtY l s o ∧ mtY l s o ≤ 32000000) :=
  ma_le _ _ s s.length (isSeq_len hs) (fun i hi => good_in (goodL_at hg (o + i) (by omega))) s.length (Nat.le_refl _)
def moP (l : List (Int × Int)) (s : List Int) : Bool := hdOk l && cdOk s && decide (l.length = s.length)
def moB (l : List (Int × Int)) (s : List Int) : Bool := moP l s && good (mtX l s 0) (mtY l s 0)
def moX (l : List (Int × Int)) (s : List Int) : Int := if moB l s then mtX l s 0 else 0
def moY (l : List (Int × Int)) (s : List Int) : Int := if moB l s then mtY l s 0 else 0
/-! ### sums of signals -/
def asX (a b : List (Int × Int)) (i : Nat) : Int := gre a i + gre b i
def asY (a b : List (Int × Int)) (i : Nat) : Int := gim a i + gim b i
def asL (a b : List (Int × Int)) : List (Int × Int) := genG a.length (asX a b) (asY a b)
def asB (a b : List (Int × Int)) : Bool := hdOk a && hdOk b && decide (a.length = b.length) && goodL (asL a b)
def asF (a b : List (Int × Int)) : List (Int × Int) := if asB a b then asL a b else []
theorem asF_len (a b : List (Int × Int)) : (asF a b).length ≤ 1048576 := by
  unfold asF
  split
  · rename_i h
    unfold asB at h
    simp only [Bool.and_eq_true] at h
    have := hdOk_len h.1.1.1
    unfold asL
    rw [genG_length]
    omega
  · simp
/-! ### filters, delays -/
/-- The numbers of matches. -/
def ftN (l : List (Int × Int)) (s : List Int) : Nat := l.length + 1 - s.length
def ftL (l : List (Int × Int)) (s : List Int) : List (Int × Int) := genG (ftN l s) (mtX l s) (mtY l s)
def ftB (l : List (Int × Int)) (s : List Int) : Bool := hdOk l && cdOk s && goodL (ftL l s)
def ftF (l : List (Int × Int)) (s : List Int) : List (Int × Int) := if ftB l s then ftL l s else []
theorem ftF_len (l : List (Int × Int)) (s : List Int) : (ftF l s).length ≤ 1048576 := by
  unfold ftF
  split
  · rename_i h
    unfold ftB at h
    simp only [Bool.and_eq_true] at h
    have := hdOk_len h.1.1
    unfold ftL
    rw [genG_length]
    unfold ftN
    omega
  · simp
/-- The first index of the greatest of k numbers. -/
def bestI (g : Nat → Int) : Nat → Nat
  | 0 => 0
  | k + 1 => if g k > g (bestI g k) then k else bestI g k
theorem bestI_lt (g : Nat → Int) (k : Nat) : bestI g k ≤ k - 1 := by
  induction k with
  | zero => exact Nat.le_refl _
  | succ k ih =>
    unfold bestI
    split <;> omega
def nmM (l : List (Int × Int)) (s : List Int) (j : Nat) : Int := norm (mtX l s j) (mtY l s j)
def fdB (l : List (Int × Int)) (s : List Int) : Bool := hdOk l && cdOk s && decide (s.length ≤ l.length)
def fdV (l : List (Int × Int)) (s : List Int) : Int := (bestI (nmM l s) (ftN l s) : Int)
def fdF (l : List (Int × Int)) (s : List Int) : Int := if fdB l s then fdV l s else 0
end
end Go.Proofs.Ytfjhocmnafdnfaa
