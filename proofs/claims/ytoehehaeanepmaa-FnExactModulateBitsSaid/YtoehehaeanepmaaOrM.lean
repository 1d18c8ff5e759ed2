/- Orders of 0..m - 1, the bits of a number, the sequences of standard form: plain mathematics. -/
import Derived.Test.YtoehehaeanepmaaGoM
namespace Go.Proofs.Ytoehehaeanepmaa

set_option maxRecDepth 100000
def hasB (l : List Int) (n : Int) : Bool := decide (n ∈ l)
def orOk (o : List Int) : Bool := decide (1 ≤ o.length ∧ o.length ≤ 5) && (List.range o.length).all (fun k => hasB o (k : Int))

theorem hasB_no_take (l : List Int) (n : Int) (k : Nat) (hk : k < l.length) (h : n ∉ l.take k) (h2 : l.getD k 0 ≠ n) : n ∉ l.take (k + 1) := by
  rw [List.take_succ_eq_append_getElem hk, List.mem_append]
  rintro (h' | h')
  · exact h h'
  · simp at h'
    apply h2
    simp [List.getD, hk, h']
theorem hasB_at (l : List Int) (n : Int) (k : Nat) (hk : k < l.length) (h : l.getD k 0 = n) : hasB l n = true := by
  apply decide_eq_true
  rw [← h]
  simp [List.getD, hk]
theorem hasB_none (l : List Int) (n : Int) (h : n ∉ l) : hasB l n = false := decide_eq_false h

theorem or_within : ∀ (m : Nat) (l : List Int), l.length = m → (∀ k : Nat, k < m → (k : Int) ∈ l) → ∀ x ∈ l, 0 ≤ x ∧ x < m
  | 0, l, hl, _, x, hx => by
    have : l = [] := List.eq_nil_of_length_eq_zero hl
    subst this; simp at hx
  | m + 1, l, hl, h, x, hx => by
    have hm := h m (by omega)
    have hl' : (l.erase (m : Int)).length = m := by rw [List.length_erase_of_mem hm, hl]; rfl
    have ih := or_within m (l.erase (m : Int)) hl' (fun k hk => (List.mem_erase_of_ne (by omega)).2 (h k (by omega)))
    by_cases e : x = (m : Int)
    · omega
    · have := ih x ((List.mem_erase_of_ne e).2 hx)
      omega
theorem orOk_parts {o : List Int} (h : orOk o = true) : (1 ≤ o.length ∧ o.length ≤ 5) ∧ (∀ k : Nat, k < o.length → hasB o (k : Int) = true) ∧ ∀ x ∈ o, 0 ≤ x ∧ x < o.length := by
  unfold orOk at h
  rw [Bool.and_eq_true] at h
  have h1 := of_decide_eq_true h.1
  have h2 : ∀ k : Nat, k < o.length → hasB o (k : Int) = true := fun k hk => List.all_eq_true.1 h.2 k (List.mem_range.2 hk)
  exact ⟨h1, h2, or_within o.length o rfl (fun k hk => of_decide_eq_true (h2 k hk))⟩
theorem orOk_at {o : List Int} (h : orOk o = true) (k : Nat) (hk : k < o.length) : 0 ≤ o.getD k 0 ∧ o.getD k 0 < o.length := by
  have := (orOk_parts h).2.2 o[k] (List.getElem_mem hk)
  simpa [List.getD, hk] using this
theorem orOk_len_no {o : List Int} (h : ¬ (1 ≤ o.length ∧ o.length ≤ 5)) : orOk o = false := by
  unfold orOk; rw [decide_eq_false h]; rfl
theorem orOk_no {o : List Int} (k : Nat) (hk : k < o.length) (h : hasB o (k : Int) = false) : orOk o = false := by
  have : (List.range o.length).all (fun k => hasB o (k : Int)) = false := by
    rw [List.all_eq_false]
    exact ⟨k, List.mem_range.2 hk, by simp [h]⟩
  unfold orOk; rw [this, Bool.and_false]
theorem orOk_yes {o : List Int} (h : 1 ≤ o.length ∧ o.length ≤ 5) (h2 : ∀ k : Nat, k < o.length → hasB o (k : Int) = true) : orOk o = true := by
  unfold orOk
  rw [decide_eq_true h, Bool.true_and, List.all_eq_true]
  exact fun k hk => h2 k (List.mem_range.1 hk)

/-- The k-th bit of x. -/
def bitI (x : Nat) (k : Int) : Int := ((x : Int) / 2 ^ k.toNat) % 2
theorem bitI_01 (x : Nat) (k : Int) : 0 ≤ bitI x k ∧ bitI x k ≤ 1 := by unfold bitI; omega

/-- The phases' sum: the first k summands. -/
def phS (ph : List Int) (x : Nat) : Nat → Int
  | 0 => 0
  | k + 1 => phS ph x k + ph.getD k 0 * bitI x (k : Int)
/-- The order's sum: the summands 1..i. -/
def orS (o : List Int) (x : Nat) : Nat → Int
  | 0 => 0
  | i + 1 => orS o x i + 2 * bitI x (o.getD i 0) * bitI x (o.getD (i + 1) 0)
def stT (o ph : List Int) (c : Int) (s : Bool) (x : Nat) : Int :=
  c + phS ph x ph.length + orS o x (o.length - 1) + (if s then 2 * bitI x (o.getD 0 0) else 0)
def stL (o ph : List Int) (c : Int) (s : Bool) : List Int := gen (2 ^ o.length) (fun x => stT o ph c s x % 4)
def stOk (o ph : List Int) (c : Int) : Bool := orOk o && decide (ph.length = o.length) && allIn ph 0 3 && inB c 0 3
def stP (o ph : List Int) (c : Int) : List Int := if stOk o ph c then stL o ph c false else []
def stQ (o ph : List Int) (c : Int) : List Int := if stOk o ph c then stL o ph c true else []

theorem phS_bound (ph : List Int) (x : Nat) (h : allIn ph 0 3 = true) : ∀ k : Nat, k ≤ ph.length → 0 ≤ phS ph x k ∧ phS ph x k ≤ 3 * k
  | 0, _ => by simp [phS]
  | k + 1, hk => by
    have ih := phS_bound ph x h k (by omega)
    have a := allIn_getD h k (by omega)
    have b := bitI_01 x (k : Int)
    obtain ⟨u, hu⟩ : ∃ u, u = ph.getD k 0 := ⟨_, rfl⟩
    obtain ⟨v, hv⟩ : ∃ v, v = bitI x (k : Int) := ⟨_, rfl⟩
    simp only [phS]
    rw [← hu, ← hv]
    rw [← hu] at a; rw [← hv] at b
    rcases (show v = 0 ∨ v = 1 by omega) with rfl | rfl
    · simp; omega
    · simp; omega
theorem orS_bound (o : List Int) (x : Nat) : ∀ i : Nat, 0 ≤ orS o x i ∧ orS o x i ≤ 2 * i
  | 0 => by simp [orS]
  | i + 1 => by
    have ih := orS_bound o x i
    have a := bitI_01 x (o.getD i 0)
    have b := bitI_01 x (o.getD (i + 1) 0)
    simp only [orS]
    obtain ⟨u, hu⟩ : ∃ u, u = bitI x (o.getD i 0) := ⟨_, rfl⟩
    obtain ⟨v, hv⟩ : ∃ v, v = bitI x (o.getD (i + 1) 0) := ⟨_, rfl⟩
    rw [← hu, ← hv]
    rw [← hu] at a; rw [← hv] at b
    rcases (show u = 0 ∨ u = 1 by omega) with rfl | rfl <;> rcases (show v = 0 ∨ v = 1 by omega) with rfl | rfl <;> simp <;> omega
theorem stOk_parts {o ph : List Int} {c : Int} (h : stOk o ph c = true) : orOk o = true ∧ ph.length = o.length ∧ allIn ph 0 3 = true ∧ 0 ≤ c ∧ c ≤ 3 := by
  unfold stOk at h
  simp only [Bool.and_eq_true, inB, decide_eq_true_eq] at h
  exact ⟨h.1.1.1, h.1.1.2, h.1.2, h.2.1, h.2.2⟩
theorem stL_len (o ph : List Int) (c : Int) (s : Bool) (h : o.length ≤ 5) : (stL o ph c s).length ≤ 32 := by
  unfold stL
  rw [gen_length]
  rcases (show o.length = 0 ∨ o.length = 1 ∨ o.length = 2 ∨ o.length = 3 ∨ o.length = 4 ∨ o.length = 5 by omega) with e | e | e | e | e | e <;> rw [e] <;> decide
theorem stP_len (o ph : List Int) (c : Int) : (stP o ph c).length ≤ 1048576 := by
  unfold stP; split
  · rename_i h
    have := stL_len o ph c false (orOk_parts (stOk_parts h).1).1.2
    omega
  · simp
theorem stQ_len (o ph : List Int) (c : Int) : (stQ o ph c).length ≤ 1048576 := by
  unfold stQ; split
  · rename_i h
    have := stL_len o ph c true (orOk_parts (stOk_parts h).1).1.2
    omega
  · simp
end Go.Proofs.Ytoehehaeanepmaa
