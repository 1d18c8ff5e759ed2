/- The greatest sets of which each two members go together: a search by depth finds the first of the longest ones: plain mathematics. -/
import Derived.Test.YtfjhocmnafdnfaaKit
namespace Go.Proofs.Ytfjhocmnafdnfaa

set_option maxRecDepth 100000
/-- A list comes before another one of the same length. -/
def gtB4 : List Nat → List Nat → Bool
  | a :: s, b :: t => if a = b then gtB4 s t else decide (a < b)
  | _, _ => false
theorem gtB4_self : ∀ l : List Nat, gtB4 l l = false
  | [] => rfl
  | a :: s => by unfold gtB4; rw [if_pos rfl]; exact gtB4_self s
theorem gtB4_eq : ∀ a b : List Nat, a.length = b.length → gtB4 a b = false → gtB4 b a = false → a = b
  | [], [], _, _, _ => rfl
  | [], b :: t, h, _, _ => by simp at h
  | a :: s, [], h, _, _ => by simp at h
  | a :: s, b :: t, h, h1, h2 => by
    unfold gtB4 at h1 h2
    by_cases e : a = b
    · subst e
      rw [if_pos rfl] at h1 h2
      rw [gtB4_eq s t (by simpa using h) h1 h2]
    · rw [if_neg e] at h1
      rw [if_neg (fun x => e x.symm)] at h2
      have := of_decide_eq_false h1
      have := of_decide_eq_false h2
      omega
theorem gtB4_pre : ∀ p a b : List Nat, gtB4 (p ++ a) (p ++ b) = gtB4 a b
  | [], _, _ => rfl
  | x :: p, a, b => by
    rw [List.cons_append, List.cons_append]
    show (if x = x then gtB4 (p ++ a) (p ++ b) else decide (x < x)) = _
    rw [if_pos rfl]; exact gtB4_pre p a b
/-- A set of indices below n: in ascending order, each goes with those before it. -/
structure GtGood (R : Nat → Nat → Bool) (n : Nat) (l : List Nat) : Prop where
  up : l.Pairwise (fun a b => a < b ∧ R b a = true)
  lt : ∀ x ∈ l, x < n
/-- The first of the longest ones. -/
def GtBest (R : Nat → Nat → Bool) (n : Nat) (l : List Nat) : Prop := GtGood R n l ∧ ∀ m, GtGood R n m → m.length ≤ l.length ∧ (m.length = l.length → gtB4 m l = false)
theorem GtBest.unique {R : Nat → Nat → Bool} {n : Nat} {l m : List Nat} (hl : GtBest R n l) (hm : GtBest R n m) : l = m := by
  have h1 := hl.2 m hm.1
  have h2 := hm.2 l hl.1
  have e : l.length = m.length := by omega
  exact gtB4_eq l m e (h2.2 e) (h1.2 e.symm)
/-- The search by depth: f indices from i on may still be added to the set; g is the greatest so far. -/
def gtL (R : Nat → Nat → Bool) : Nat → List Nat → Nat → List Nat → List Nat
  | 0, _, _, g => g
  | f + 1, set, i, g =>
    if set.all (fun j => R i j) then
      gtL R f set (i + 1) (if (gtL R f (set ++ [i]) (i + 1) (set ++ [i])).length > g.length then gtL R f (set ++ [i]) (i + 1) (set ++ [i]) else g)
    else gtL R f set (i + 1) g
structure GtRes (R : Nat → Nat → Bool) (n : Nat) (set : List Nat) (i : Nat) (g r : List Nat) : Prop where
  le : g.length ≤ r.length
  new : r ≠ g → ∃ t, r = set ++ t ∧ GtGood R n r ∧ (∀ x ∈ t, i ≤ x) ∧ g.length < r.length
  most : ∀ t, t ≠ [] → GtGood R n (set ++ t) → (∀ x ∈ t, i ≤ x) → (set ++ t).length ≤ r.length
  first : r ≠ g → ∀ t, t ≠ [] → GtGood R n (set ++ t) → (∀ x ∈ t, i ≤ x) → (set ++ t).length = r.length → gtB4 (set ++ t) r = false
theorem GtGood.rel {R : Nat → Nat → Bool} {n : Nat} {set t : List Nat} {i : Nat} (h : GtGood R n (set ++ i :: t)) : set.all (fun j => R i j) = true := by
  rw [List.all_eq_true]
  intro j hj
  have := (List.pairwise_append.1 h.up).2.2 j hj i (by simp)
  exact this.2
theorem GtGood.tail_gt {R : Nat → Nat → Bool} {n : Nat} {set t : List Nat} {i : Nat} (h : GtGood R n (set ++ i :: t)) : ∀ x ∈ t, i + 1 ≤ x := by
  intro x hx
  have := (List.pairwise_cons.1 (List.pairwise_append.1 h.up).2.1).1 x hx
  omega
theorem GtGood.add {R : Nat → Nat → Bool} {n : Nat} {set : List Nat} {i : Nat} (h : GtGood R n set) (hi : i < n) (hlt : ∀ x ∈ set, x < i) (hr : set.all (fun j => R i j) = true) : GtGood R n (set ++ [i]) := by
  refine ⟨List.pairwise_append.2 ⟨h.up, by simp, fun a ha b hb => ?_⟩, fun x hx => ?_⟩
  · have : b = i := by simpa using hb
    subst this
    exact ⟨hlt a ha, List.all_eq_true.1 hr a ha⟩
  · rcases List.mem_append.1 hx with h1 | h1
    · exact h.lt x h1
    · have : x = i := by simpa using h1
      omega
theorem gtL_res (R : Nat → Nat → Bool) (n : Nat) : ∀ (f : Nat) (set : List Nat) (i : Nat) (g : List Nat), i + f = n → GtGood R n set → (∀ x ∈ set, x < i) → GtRes R n set i g (gtL R f set i g)
  | 0, set, i, g, hf, hs, hl => by
    refine ⟨Nat.le_refl _, fun h => absurd rfl h, fun t ht hg hi => ?_, fun h => absurd rfl h⟩
    cases t with
    | nil => exact absurd rfl ht
    | cons x t =>
      have h1 := hg.lt x (by simp)
      have h2 := hi x (by simp)
      omega
  | f + 1, set, i, g, hf, hs, hl => by
    unfold gtL
    have split : ∀ t, t ≠ [] → GtGood R n (set ++ t) → (∀ x ∈ t, i ≤ x) → (∃ t', t = i :: t') ∨ (∀ x ∈ t, i + 1 ≤ x) := fun t ht hg hi => by
      cases t with
      | nil => exact absurd rfl ht
      | cons x t' =>
        by_cases e : x = i
        · exact Or.inl ⟨t', by rw [e]⟩
        · refine Or.inr (fun y hy => ?_)
          have hx := hi x (by simp)
          rcases List.mem_cons.1 hy with h1 | h1
          · omega
          · have := hg.tail_gt y h1
            omega
    by_cases hr : set.all (fun j => R i j) = true
    · rw [if_pos hr]
      have hs2 := hs.add (by omega) hl hr
      have r2 := gtL_res R n f (set ++ [i]) (i + 1) (set ++ [i]) (by omega) hs2 (fun x hx => by
        rcases List.mem_append.1 hx with h1 | h1
        · have := hl x h1; omega
        · have : x = i := by simpa using h1
          omega)
      obtain ⟨g2, hg2⟩ : ∃ g2, g2 = gtL R f (set ++ [i]) (i + 1) (set ++ [i]) := ⟨_, rfl⟩
      rw [← hg2] at r2 ⊢
      obtain ⟨g', hg'⟩ : ∃ g', g' = if g2.length > g.length then g2 else g := ⟨_, rfl⟩
      rw [← hg']
      have r1 := gtL_res R n f set (i + 1) g' (by omega) hs (fun x hx => by have := hl x hx; omega)
      obtain ⟨r, hrr⟩ : ∃ r, r = gtL R f set (i + 1) g' := ⟨_, rfl⟩
      rw [← hrr] at r1 ⊢
      have hle : g.length ≤ g'.length ∧ g2.length ≤ g'.length ∧ (g' ≠ g → g' = g2 ∧ g.length < g2.length) := by
        rw [hg']
        by_cases h : g2.length > g.length
        · rw [if_pos h]; exact ⟨by omega, Nat.le_refl _, fun _ => ⟨rfl, h⟩⟩
        · rw [if_neg h]; exact ⟨Nat.le_refl _, by omega, fun e => absurd rfl e⟩
      have h2i : ∃ u, g2 = set ++ i :: u ∧ GtGood R n g2 ∧ ∀ x ∈ i :: u, i ≤ x := by
        by_cases e : g2 = set ++ [i]
        · exact ⟨[], e, e ▸ hs2, fun x hx => by have : x = i := by simpa using hx
                                                omega⟩
        · obtain ⟨u, h1, h2, h3, -⟩ := r2.new e
          refine ⟨u, by rw [h1]; simp, h2, fun x hx => ?_⟩
          rcases List.mem_cons.1 hx with h4 | h4
          · omega
          · have := h3 x h4; omega
      have m2 : ∀ t', GtGood R n (set ++ i :: t') → (set ++ i :: t').length ≤ g2.length := fun t' hg => by
        have e : set ++ i :: t' = (set ++ [i]) ++ t' := by simp
        by_cases h : t' = []
        · subst h; exact r2.le
        · rw [e] at hg ⊢
          exact r2.most t' h hg (by rw [← e] at hg; exact hg.tail_gt)
      refine ⟨by have := r1.le; omega, fun hne => ?_, fun t ht hg hi => ?_, fun hne t ht hg hi hlen => ?_⟩
      · by_cases e : r = g'
        · obtain ⟨e2, h3⟩ := hle.2.2 (fun x => hne (e.trans x))
          obtain ⟨u, h4, h5, h6⟩ := h2i
          exact ⟨i :: u, by rw [e, e2, h4], by rw [e, e2]; exact h5, h6, by rw [e, e2]; exact h3⟩
        · obtain ⟨u, h4, h5, h6, h7⟩ := r1.new e
          exact ⟨u, h4, h5, fun x hx => by have := h6 x hx; omega, by omega⟩
      · rcases split t ht hg hi with ⟨t', rfl⟩ | h
        · have := m2 t' hg
          have := r1.le
          omega
        · exact r1.most t ht hg h
      · by_cases e : r = g'
        · obtain ⟨e2, h3⟩ := hle.2.2 (fun x => hne (e.trans x))
          obtain ⟨u, h4, h5, h6⟩ := h2i
          rw [e, e2] at hlen ⊢
          rcases split t ht hg hi with ⟨t', rfl⟩ | h
          · have e3 : set ++ i :: t' = (set ++ [i]) ++ t' := by simp
            by_cases h8 : t' = []
            · subst h8
              by_cases h9 : g2 = set ++ [i]
              · rw [h9]; exact gtB4_self _
              · obtain ⟨_, -, -, -, h10⟩ := r2.new h9
                omega
            · by_cases h9 : g2 = set ++ [i]
              · rw [h9] at hlen
                cases t' with
                | nil => exact absurd rfl h8
                | cons y t'' => simp at hlen
              · have h11 := hg.tail_gt
                rw [e3] at hg hlen ⊢
                exact r2.first h9 t' h8 hg h11 hlen
          · rw [h4, gtB4_pre]
            cases t with
            | nil => exact absurd rfl ht
            | cons x t' =>
              have hx := h x (by simp)
              unfold gtB4
              rw [if_neg (by omega)]
              exact decide_eq_false (by omega)
        · rcases split t ht hg hi with ⟨t', rfl⟩ | h
          · have := m2 t' hg
            obtain ⟨_, -, -, -, h10⟩ := r1.new e
            omega
          · exact r1.first e t ht hg h hlen
    · rw [if_neg hr]
      have r1 := gtL_res R n f set (i + 1) g (by omega) hs (fun x hx => by have := hl x hx; omega)
      have hsp : ∀ t, t ≠ [] → GtGood R n (set ++ t) → (∀ x ∈ t, i ≤ x) → ∀ x ∈ t, i + 1 ≤ x := fun t ht hg hi => by
        rcases split t ht hg hi with ⟨t', rfl⟩ | h
        · exact absurd hg.rel hr
        · exact h
      exact ⟨r1.le, fun h => by
        obtain ⟨t, h1, h2, h3, h4⟩ := r1.new h
        exact ⟨t, h1, h2, fun x hx => by have := h3 x hx; omega, h4⟩, fun t ht hg hi => r1.most t ht hg (hsp t ht hg hi), fun h t ht hg hi => r1.first h t ht hg (hsp t ht hg hi)⟩
/-- What the search finds is the first of the longest sets. -/
theorem gtL_best (R : Nat → Nat → Bool) (n : Nat) : GtBest R n (gtL R n [] 0 []) := by
  have h0 : GtGood R n [] := ⟨List.Pairwise.nil, fun x hx => by simp at hx⟩
  have r := gtL_res R n n [] 0 [] (by omega) h0 (fun x hx => by simp at hx)
  obtain ⟨l, hl⟩ : ∃ l, l = gtL R n [] 0 [] := ⟨_, rfl⟩
  rw [← hl] at r ⊢
  by_cases e : l = []
  · subst e
    refine ⟨h0, fun m hm => ?_⟩
    by_cases h : m = []
    · subst h; exact ⟨Nat.le_refl _, fun _ => rfl⟩
    · have h1 := r.most m h hm (fun _ _ => Nat.zero_le _)
      cases m with
      | nil => exact absurd rfl h
      | cons x m => simp at h1
  · obtain ⟨t, h1, h2, h3, h4⟩ := r.new e
    refine ⟨h2, fun m hm => ?_⟩
    by_cases h : m = []
    · subst h
      refine ⟨Nat.zero_le _, fun hl => ?_⟩
      rw [← hl] at h4
      simp at h4
    · exact ⟨r.most m h hm (fun _ _ => Nat.zero_le _), fun hl => r.first e m h hm (fun _ _ => Nat.zero_le _) hl⟩
/-! ### all subsets, by the bits of a number -/
def mkL (n s : Nat) : List Nat := (List.range n).filter (fun k => s.testBit k)
theorem mkL_lt {n s x : Nat} (h : x ∈ mkL n s) : x < n := by
  unfold mkL at h
  exact List.mem_range.1 (List.mem_filter.1 h).1
theorem mkL_succ (n s : Nat) : mkL (n + 1) s = mkL n s ++ (if s.testBit n then [n] else []) := by
  unfold mkL
  rw [List.range_succ, List.filter_append]
  cases h : s.testBit n <;> simp [h]
theorem mkL_up : ∀ n s, (mkL n s).Pairwise (· < ·)
  | 0, _ => List.Pairwise.nil
  | n + 1, s => by
    rw [mkL_succ]
    refine List.pairwise_append.2 ⟨mkL_up n s, by split <;> simp, fun a ha b hb => ?_⟩
    have h1 := mkL_lt ha
    split at hb
    · have : b = n := by simpa using hb
      omega
    · simp at hb
theorem mkL_ext : ∀ (n a b : Nat), (∀ k, k < n → a.testBit k = b.testBit k) → mkL n a = mkL n b
  | 0, _, _, _ => rfl
  | n + 1, a, b, h => by
    rw [mkL_succ, mkL_succ, mkL_ext n a b (fun k hk => h k (by omega)), h n (by omega)]
theorem mkL_all : ∀ (n : Nat) (l : List Nat), l.Pairwise (· < ·) → (∀ x ∈ l, x < n) → ∃ s, s < 2 ^ n ∧ mkL n s = l
  | 0, l, _, h => by
    refine ⟨0, by simp, ?_⟩
    cases l with
    | nil => rfl
    | cons x l => have := h x (by simp); omega
  | n + 1, l, hu, h => by
    rcases List.eq_nil_or_concat l with rfl | ⟨l', x, rfl⟩
    · refine ⟨0, Nat.pow_pos (by omega), ?_⟩
      unfold mkL
      simp
    · rw [List.concat_eq_append] at hu h ⊢
      have hp := List.pairwise_append.1 hu
      have hx := h x (by simp)
      have hl' : ∀ y ∈ l', y < x := fun y hy => hp.2.2 y hy x (by simp)
      by_cases e : x = n
      · subst e
        obtain ⟨s, hs, hm⟩ := mkL_all x l' hp.1 hl'
        refine ⟨2 ^ x + s, by rw [Nat.pow_succ]; omega, ?_⟩
        rw [mkL_succ, mkL_ext x (2 ^ x + s) s (fun k hk => Nat.testBit_two_pow_add_gt hk s), hm, Nat.testBit_two_pow_add_eq, Nat.testBit_lt_two_pow hs]
        rfl
      · obtain ⟨s, hs, hm⟩ := mkL_all n (l' ++ [x]) hu (fun y hy => by
          rcases List.mem_append.1 hy with h1 | h1
          · have := hl' y h1; omega
          · have : y = x := by simpa using h1
            omega)
        refine ⟨s, by rw [Nat.pow_succ]; omega, ?_⟩
        rw [mkL_succ, hm, Nat.testBit_lt_two_pow hs]
        simp
theorem gtB4_trans : ∀ a b m : List Nat, a.length = b.length → m.length = b.length → gtB4 a b = true → gtB4 m b = false → gtB4 m a = false
  | [], [], _, _, _, h, _ => by simp [gtB4] at h
  | [], _ :: _, _, h, _, _, _ => by simp at h
  | _ :: _, [], _, h, _, _, _ => by simp at h
  | _ :: _, _ :: _, [], _, h, _, _ => by simp at h
  | x :: a, y :: b, z :: m, h1, h2, h3, h4 => by
    unfold gtB4 at h3 h4 ⊢
    by_cases e1 : x = y
    · subst e1
      rw [if_pos rfl] at h3
      by_cases e2 : z = x
      · rw [if_pos e2] at h4 ⊢
        exact gtB4_trans a b m (by simpa using h1) (by simpa using h2) h3 h4
      · rw [if_neg e2] at h4 ⊢
        exact h4
    · rw [if_neg e1] at h3
      have h5 := of_decide_eq_true h3
      by_cases e2 : z = y
      · rw [if_neg (by omega)]
        exact decide_eq_false (by omega)
      · rw [if_neg e2] at h4
        have h6 := of_decide_eq_false h4
        rw [if_neg (by omega)]
        exact decide_eq_false (by omega)
/-- What the masks below S have left as the best. -/
structure MkBest (R : Nat → Nat → Bool) (n S : Nat) (B : List Nat) : Prop where
  good : GtGood R n B
  most : ∀ s, s < S → GtGood R n (mkL n s) → (mkL n s).length ≤ B.length ∧ ((mkL n s).length = B.length → gtB4 (mkL n s) B = false)
theorem MkBest.start (R : Nat → Nat → Bool) (n : Nat) : MkBest R n 1 [] :=
  ⟨⟨List.Pairwise.nil, fun x hx => by simp at hx⟩, fun s hs _ => by
    obtain rfl : s = 0 := by omega
    have : mkL n 0 = [] := by unfold mkL; simp
    rw [this]; exact ⟨Nat.le_refl _, fun _ => rfl⟩⟩
theorem MkBest.next {R : Nat → Nat → Bool} {n S : Nat} {B : List Nat} (h : MkBest R n S B) (hg : GtGood R n (mkL n S)) (hb : (mkL n S).length > B.length ∨ (mkL n S).length = B.length ∧ gtB4 (mkL n S) B = true) : MkBest R n (S + 1) (mkL n S) := by
  refine ⟨hg, fun s hs hs2 => ?_⟩
  by_cases e : s = S
  · subst e; exact ⟨Nat.le_refl _, fun _ => gtB4_self _⟩
  · have h1 := h.most s (by omega) hs2
    rcases hb with h2 | ⟨h2, h3⟩
    · exact ⟨by omega, fun x => by omega⟩
    · exact ⟨by omega, fun x => gtB4_trans _ B _ h2 (by omega) h3 (h1.2 (by omega))⟩
theorem MkBest.stay {R : Nat → Nat → Bool} {n S : Nat} {B : List Nat} (h : MkBest R n S B) (hb : GtGood R n (mkL n S) → ¬ ((mkL n S).length > B.length ∨ (mkL n S).length = B.length ∧ gtB4 (mkL n S) B = true)) : MkBest R n (S + 1) B := by
  refine ⟨h.good, fun s hs hs2 => ?_⟩
  by_cases e : s = S
  · subst e
    have h1 := hb hs2
    refine ⟨by omega, fun x => ?_⟩
    cases hc : gtB4 (mkL n s) B with
    | false => rfl
    | true => exact absurd (Or.inr ⟨x, hc⟩) h1
  · exact h.most s (by omega) hs2
/-- The best of all masks is what the search by depth finds. -/
theorem MkBest.all {R : Nat → Nat → Bool} {n : Nat} {B : List Nat} (h : MkBest R n (2 ^ n) B) : B = gtL R n [] 0 [] := by
  refine GtBest.unique (R := R) (n := n) ⟨h.good, fun m hm => ?_⟩ (gtL_best R n)
  obtain ⟨s, hs, rfl⟩ := mkL_all n m (hm.up.imp (fun h => h.1)) hm.lt
  exact h.most s hs hm
end Go.Proofs.Ytfjhocmnafdnfaa
