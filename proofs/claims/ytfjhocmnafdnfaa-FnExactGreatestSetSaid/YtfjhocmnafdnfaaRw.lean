/- Lists of lists of whole numbers: how they lie in memory; rows of the call's own, which share nothing. -/
import Derived.Test.YtfjhocmnafdnfaaGsn
import Derived.Test.YtfjhocmnafdnfaaPhs
import Derived.Maps.AppendAt
namespace Go.Proofs.Ytfjhocmnafdnfaa
set_option maxRecDepth 100000
open Go.RowKit

/-! ### sizes -/
def tot : List (List Int) → Nat
  | [] => 0
  | l :: t => l.length + tot t
def sz2 (ll : List (List Int)) : Nat := ll.length + tot ll
theorem tot_le_sz (ll : List (List Int)) : tot ll ≤ sz2 ll := by unfold sz2; omega
theorem tot_append (a b : List (List Int)) : tot (a ++ b) = tot a + tot b := by
  induction a with
  | nil => simp [tot]
  | cons x t ih => simp only [List.cons_append, tot, ih]; omega
theorem getD_at (ll : List (List Int)) (i : Nat) (h : i < ll.length) : ll.getD i [] = ll[i] := by simp [List.getD, h]
theorem tot_take_succ (ll : List (List Int)) (i : Nat) (h : i < ll.length) : tot (ll.take (i + 1)) = tot (ll.take i) + (ll.getD i []).length := by
  rw [List.take_succ_eq_append_getElem h, tot_append, getD_at ll i h]
  simp [tot]
theorem tot_take_le (ll : List (List Int)) (i : Nat) : tot (ll.take i) ≤ tot ll := by
  have h := tot_append (ll.take i) (ll.drop i)
  rw [List.take_append_drop] at h
  omega
theorem row_le_tot (ll : List (List Int)) (i : Nat) (h : i < ll.length) : (ll.getD i []).length ≤ tot ll := by
  have h1 := tot_take_succ ll i h
  have h2 := tot_take_le ll (i + 1)
  omega

/-! ### reading -/
def IR (w : World) (v : Value) (ll : List (List Int)) : Prop :=
  (ll = [] ∧ ∃ a cap, v = .slice a 0 cap) ∨
  (ll ≠ [] ∧ ∃ b off cap, v = .slice (some ⟨b, off, none⟩) ll.length cap ∧ ll.length ≤ maxLen ∧ ∀ i, i < ll.length → ∃ u, w.cell? ⟨b, off + i, none⟩ = some u ∧ IS w u (ll.getD i []))
theorem IR.below {w w' : World} {v : Value} {ll : List (List Int)} (h : IR w v ll) (hb : Below w.heap.size w w') : IR w' v ll := by
  rcases h with h | ⟨hn, b, off, cap, hv, hm, hc⟩
  · exact Or.inl h
  · refine Or.inr ⟨hn, b, off, cap, hv, hm, fun i hi => ?_⟩
    obtain ⟨u, h1, h2⟩ := hc i hi
    exact ⟨u, keepc hb h1, h2.below hb⟩
theorem IR.slice {w : World} {v : Value} {ll : List (List Int)} (h : IR w v ll) : ∃ a cap, v = .slice a ll.length cap := by
  rcases h with ⟨rfl, a, cap, rfl⟩ | ⟨_, b, off, cap, rfl, _⟩ <;> exact ⟨_, _, rfl⟩
theorem IR.len {w : World} {v : Value} {ll : List (List Int)} (h : IR w v ll) : ll.length ≤ maxLen := by
  rcases h with ⟨rfl, _⟩ | ⟨_, b, off, cap, _, hm, _⟩
  · exact Nat.zero_le _
  · exact hm
theorem IR.nil (w : World) : IR w (.slice none 0 0) [] := Or.inl ⟨rfl, none, 0, rfl⟩
/-- The row at i: the address of its cell and what lies there. -/
theorem IR.at {w : World} {a : Option Addr} {cap : Nat} {n : Nat} {ll : List (List Int)} (h : IR w (.slice a n cap) ll) (i : Nat) (hi : i < ll.length) : n = ll.length ∧ ∃ b off u, a = some ⟨b, off, none⟩ ∧ w.cell? ⟨b, off + i, none⟩ = some u ∧ IS w u (ll.getD i []) := by
  rcases h with ⟨rfl, _⟩ | ⟨_, b, off, cap', hv, _, hc⟩
  · simp at hi
  · simp only [Value.slice.injEq] at hv
    obtain ⟨rfl, rfl, rfl⟩ := hv
    obtain ⟨u, h1, h2⟩ := hc i hi
    exact ⟨rfl, b, off, u, rfl, h1, h2⟩

theorem IS.sl {w : World} {v : Value} {l : List Int} (h : IS w v l) : ∃ a cap, v = .slice a l.length cap := by
  rcases h with ⟨rfl, a, cap, rfl⟩ | ⟨_, b, off, cap, rfl, _⟩ <;> exact ⟨_, _, rfl⟩

theorem IS.le {w : World} {v : Value} {l : List Int} (h : IS w v l) : l.length ≤ 9223372036854775807 := by
  have hm := maxLen_val
  rcases h with ⟨rfl, _⟩ | ⟨_, b, off, cap, _, h1, _⟩
  · exact Nat.zero_le _
  · omega

/-! ### rows of the call's own -/
structure RowsOf (w : World) (B : Nat) (rs : List Value) (ll : List (List Int)) : Prop where
  len : rs.length = ll.length
  own : ∀ i, i < ll.length → Own w B (rs.getD i (.slice none 0 0)) (ll.getD i [])
  apart : ∀ i j, i < j → j < ll.length → ∀ k, (rs.getD i (.slice none 0 0)).ownBlock = some k → (rs.getD j (.slice none 0 0)).ownBlock ≠ some k
theorem RowsOf.nil (w : World) (B : Nat) : RowsOf w B [] [] := ⟨rfl, fun i h => by simp at h, fun i j _ h => by simp at h⟩
theorem RowsOf.lt {w : World} {B : Nat} {rs : List Value} {ll : List (List Int)} (h : RowsOf w B rs ll) (i : Nat) (hi : i < ll.length) : ∀ k, (rs.getD i (.slice none 0 0)).ownBlock = some k → B ≤ k ∧ k < w.heap.size := (h.own i hi).lt
theorem RowsOf.below {w w' : World} {B : Nat} {rs : List Value} {ll : List (List Int)} (h : RowsOf w B rs ll) (hb : Below w.heap.size w w') : RowsOf w' B rs ll := ⟨h.len, fun i hi => (h.own i hi).below hb, h.apart⟩
theorem RowsOf.alloc {w : World} {B : Nat} {rs : List Value} {ll : List (List Int)} (h : RowsOf w B rs ll) (o : Obj) : RowsOf (w.alloc o) B rs ll := ⟨h.len, fun i hi => (h.own i hi).alloc o, h.apart⟩
theorem RowsOf.mono {w : World} {B B' : Nat} {rs : List Value} {ll : List (List Int)} (h : RowsOf w B rs ll) (hB : B' ≤ B) : RowsOf w B' rs ll := ⟨h.len, fun i hi => (h.own i hi).mono hB, h.apart⟩
theorem RowsOf.grown {w w' : World} {B : Nat} {rs : List Value} {ll : List (List Int)} {row : Option Nat} (h : RowsOf w B rs ll) (hg : w.grownBy w' row) (hne : ∀ i, i < ll.length → ∀ k, (rs.getD i (.slice none 0 0)).ownBlock = some k → row ≠ some k) : RowsOf w' B rs ll :=
  ⟨h.len, fun i hi => (h.own i hi).grown hg (hne i hi), h.apart⟩
theorem getD_left {α : Type} (l m : List α) (d : α) (i : Nat) (h : i < l.length) : (l ++ m).getD i d = l.getD i d := by
  simp [List.getD, List.getElem?_append_left h]
theorem getD_end {α : Type} (l : List α) (x d : α) : (l ++ [x]).getD l.length d = x := by simp [List.getD]
theorem RowsOf.push {w : World} {B : Nat} {rs : List Value} {ll : List (List Int)} (h : RowsOf w B rs ll) {r : Value} {l : List Int} (hr : Own w B r l)
    (ha : ∀ i, i < ll.length → ∀ k, (rs.getD i (.slice none 0 0)).ownBlock = some k → r.ownBlock ≠ some k) : RowsOf w B (rs ++ [r]) (ll ++ [l]) := by
  refine ⟨by simp [h.len], fun i hi => ?_, fun i j hij hj k hk => ?_⟩
  · by_cases e : i < ll.length
    · rw [getD_left _ _ _ _ (by rw [h.len]; exact e), getD_left _ _ _ _ e]; exact h.own i e
    · have : i = ll.length := by simp at hi; omega
      subst this
      rw [getD_end]
      rw [← h.len, getD_end]
      exact hr
  · have hil : i < ll.length := by simp at hj; omega
    rw [getD_left _ _ _ _ (by rw [h.len]; exact hil)] at hk
    by_cases e : j < ll.length
    · rw [getD_left _ _ _ _ (by rw [h.len]; exact e)]; exact h.apart i j hij e k hk
    · have : j = ll.length := by simp at hj; omega
      subst this
      rw [← h.len, getD_end]
      exact ha i hil k hk
/-- A list of lists of the call's own: no two rows share memory, and none lies in the outer row. -/
def OwnR (w : World) (B : Nat) (v : Value) (ll : List (List Int)) : Prop :=
  ∃ rs, w.ownsRow B 24 1 v ll.length rs ∧ RowsOf w B rs ll ∧ ∀ i, i < ll.length → ∀ k, (rs.getD i (.slice none 0 0)).ownBlock = some k → v.ownBlock ≠ some k
theorem OwnR.nil (w : World) (B : Nat) : OwnR w B (.slice none 0 0) [] := ⟨[], World.ownsRow_nil _ _ _ _, RowsOf.nil w B, fun i h => by simp at h⟩
theorem OwnR.len {w : World} {B : Nat} {v : Value} {ll : List (List Int)} (h : OwnR w B v ll) : ll.length ≤ maxLen := by
  obtain ⟨rs, h, -, -⟩ := h
  rcases h.2 with ⟨_, h0⟩ | ⟨g, cap, cur, hv, hg, hh, hn, hcap, _⟩
  · rw [h0]; exact Nat.zero_le _
  · omega
theorem OwnR.is {w : World} {B : Nat} {v : Value} {ll : List (List Int)} (h : OwnR w B v ll) : IR w v ll := by
  have hlen := h.len
  obtain ⟨rs, h, hr, -⟩ := h
  have h' := h
  rcases h.2 with ⟨rfl, h0⟩ | ⟨g, cap, cur, rfl, hg, hh, hn, hcap, hsz, htake⟩
  · exact Or.inl ⟨List.length_eq_zero_iff.1 h0, none, 0, rfl⟩
  · by_cases hl : ll = []
    · subst hl; exact Or.inl ⟨rfl, _, _, rfl⟩
    · have h2 : w.ownsRow B 24 1 (.slice (some ⟨g, 0, none⟩) ll.length cap) ll.length rs := h'
      refine Or.inr ⟨hl, g, 0, cap, rfl, hlen, fun i hi => ⟨rs.getD i (.slice none 0 0), ?_, (hr.own i hi).is⟩⟩
      rw [Nat.zero_add, h2.cellAt i (by omega)]
      have : i < rs.length := by rw [hr.len]; exact hi
      simp [List.getD, this]
theorem OwnR.mono {w : World} {B B' : Nat} {v : Value} {ll : List (List Int)} (h : OwnR w B v ll) (hB : B' ≤ B) : OwnR w B' v ll := by
  obtain ⟨rs, h, hr, ha⟩ := h
  exact ⟨rs, rowMono h hB, hr.mono hB, ha⟩
theorem OwnR.below {w w' : World} {B : Nat} {v : Value} {ll : List (List Int)} (h : OwnR w B v ll) (hb : Below w.heap.size w w') : OwnR w' B v ll := by
  obtain ⟨rs, h, hr, ha⟩ := h
  exact ⟨rs, rowBelow h hb, hr.below hb, ha⟩
theorem OwnR.alloc {w : World} {B : Nat} {v : Value} {ll : List (List Int)} (h : OwnR w B v ll) (o : Obj) : OwnR (w.alloc o) B v ll := by
  obtain ⟨rs, h, hr, ha⟩ := h
  exact ⟨rs, World.ownsRow.alloc h o, hr.alloc o, ha⟩
theorem OwnR.lt {w : World} {B : Nat} {v : Value} {ll : List (List Int)} (h : OwnR w B v ll) : ∀ k, v.ownBlock = some k → B ≤ k ∧ k < w.heap.size := by
  obtain ⟨rs, h, -, -⟩ := h
  exact World.ownsRow.lt h
def MakesR (w : World) (ll : List (List Int)) (e : Ending) (w' : World) : Prop := ∃ v, e = .returned v ∧ OwnR w' w.heap.size v ll ∧ Below w.heap.size w w'
def MakesRB (w : World) (ll : List (List Int)) (ok : Bool) (e : Ending) (w' : World) : Prop := ∃ v, e = .returned (.tuple #[v, .bool ok]) ∧ OwnR w' w.heap.size v ll ∧ Below w.heap.size w w'

/-! ### one row more -/
theorem infoRow : (Try.prog.info? 24).map (fun i => (i.zero, i.size, i.bytes)) = some (some (.slice none 0 0), 1, 24) := by kernel_rfl
theorem Own.oneCell {w : World} {B : Nat} {r : Value} {l : List Int} (h : Own w B r l) : r.oneCell' = true := by
  rcases h.cases with ⟨_, rfl⟩ | ⟨g, cap, rfl, _⟩ <;> rfl
/-- One row more at the end of a list of lists of the call's own: the list is of an earlier world, the row was made since, and its value lies in a cell of its own. -/
theorem wpList_pushR {ops : Array Oper} {rest : List Oper} {o : Oper} {a : Act} {w : World} {Q : Exit → Act → World → Prop} (hg : o.guard = none) (s x : Operand)
    (ho : o.op = .call { callee := .builtin .append, args := #[s, x], argTypes := #[22, 22] }) (B : Nat) (v : Value) (ll : List (List Int)) (hs : a.eval s = v)
    (wr : World) (hown : OwnR wr B v ll) (hwr : Below wr.heap.size wr w)
    (g c : Nat) (r : Value) (l : List Int) (hx : a.eval x = .slice (some ⟨g, 0, none⟩) 1 c) (hc : w.cell? ⟨g, 0, none⟩ = some r) (hr : Own w wr.heap.size r l)
    (hlen : ll.length ≤ 1048576)
    (S : Nat) (w0 : World) (hb : Below S w0 w) (hS : S ≤ B) (hB : B ≤ wr.heap.size) (hSw : S ≤ w.heap.size)
    (hK : ∀ v' w', OwnR w' B v' (ll ++ [l]) → Below S w0 w' → wpList Try.prog ops Q rest (a.put o.dst v') w') : wpList Try.prog ops Q (o :: rest) a w := by
  obtain ⟨i0, hi, hz0, hz1, hz2⟩ := info_parts infoRow
  obtain ⟨rs, hrow0, hrs0, hapo⟩ := hown
  have hrow := rowBelow hrow0 hwr
  have hrs := hrs0.below hwr
  have hsz := hwr.size
  refine wpList_append_own_at (P := Try.prog) (w := w) hg s x 22 ho B 24 i0 (.slice none 0 0) 1 24 Try.underlying22 hi hz0 hz1 hz2 rfl (by decide) v ll.length rs hs hrow ⟨g, 0, none⟩ 1 c [r] hx rfl ?_ ?_ ?_ ?_ (Nat.le_trans hB hsz) ?_
  · intro j u hj
    match j, hj with
    | 0, hj => simp at hj; subst hj; simpa [Addr.add] using hc
  · intro u hu; simp at hu; subst hu; exact hr.oneCell
  · unfold maxLen; omega
  · omega
  · intro v' w' hown' hgr _ hblk
    have hrv : ∀ k, r.ownBlock = some k → v.ownBlock ≠ some k := fun k h1 h2 => by have := (hr.lt k h1).1; have := (hrow0.lt k h2).2; omega
    refine hK v' w' ⟨rs ++ [r], ?_, ?_, ?_⟩ (hb.grown hgr hSw (fun k hk => Nat.le_trans hS (hrow.lt k hk).1))
    · rw [List.length_append]; exact hown'
    · refine (hrs.grown hgr (fun i hi k hk => hapo i hi k hk)).push ((hr.mono hB).grown hgr (fun k hk => hrv k hk)) (fun i hi k hk hk' => ?_)
      have h1 := (hr.lt k hk').1
      have h2 := (hrs0.lt i hi k hk).2
      omega
    · intro i hi k hk hk'
      have hlt : k < w.heap.size ∧ v.ownBlock ≠ some k := by
        by_cases e : i < ll.length
        · rw [getD_left _ _ _ _ (by rw [hrs.len]; exact e)] at hk
          exact ⟨(hrs.lt i e k hk).2, hapo i e k hk⟩
        · have : i = ll.length := by simp at hi; omega
          subst this
          rw [← hrs.len, getD_end] at hk
          exact ⟨(hr.lt k hk).2, hrv k hk⟩
      rcases hblk with e | e
      · rw [e] at hk'
        exact hlt.2 hk'
      · rw [e] at hk'
        simp at hk'
        omega

/-! ### a row written -/
theorem OwnR.shape {w : World} {B : Nat} {v : Value} {ll : List (List Int)} (h : OwnR w B v ll) (hn : 0 < ll.length) : ∃ g cap, v = .slice (some ⟨g, 0, none⟩) ll.length cap ∧ B ≤ g ∧ g < w.heap.size := by
  obtain ⟨rs, h, -, -⟩ := h
  rcases h.2 with ⟨_, h0⟩ | ⟨g, cap, cur, rfl, hg, hh, rest⟩
  · omega
  · exact ⟨g, cap, rfl, hg, (Array.getElem?_eq_some_iff.1 hh).1⟩
theorem OwnR.cellAt {w : World} {B g n cap : Nat} {ll : List (List Int)} (h : OwnR w B (.slice (some ⟨g, 0, none⟩) n cap) ll) (hn : n = ll.length) (i : Nat) (hi : i < ll.length) :
    ∃ u, w.cell? ⟨g, i, none⟩ = some u ∧ w.frozen? ⟨g, i, none⟩ = false ∧ IS w u (ll.getD i []) := by
  subst hn
  obtain ⟨rs, h, hr, -⟩ := h
  refine ⟨rs.getD i (.slice none 0 0), ?_, h.frozenAt i, (hr.own i hi).is⟩
  rw [h.cellAt i (by omega)]
  have : i < rs.length := by rw [hr.len]; exact hi
  simp [List.getD, this]
theorem getD_set {α : Type} (l : List α) (i k : Nat) (x d : α) (h : i < l.length) : (l.set i x).getD k d = if k = i then x else l.getD k d := by
  by_cases e : k = i
  · subst e; simp [List.getD, h]
  · simp [List.getD, List.getElem?_set_ne (Ne.symm e), e]
/-- A row made since an earlier world is laid in the place of another. -/
theorem OwnR.stored {wr w : World} {B g n cap : Nat} {ll : List (List Int)} (h : OwnR wr B (.slice (some ⟨g, 0, none⟩) n cap) ll) (hn : n = ll.length) (hb : Below wr.heap.size wr w) (hB : B ≤ wr.heap.size) {r : Value} {l : List Int} (hr : Own w wr.heap.size r l) (i : Nat) (hi : i < ll.length) :
    OwnR (w.setCell ⟨g, i, none⟩ r) B (.slice (some ⟨g, 0, none⟩) n cap) (ll.set i l) := by
  subst hn
  obtain ⟨rs, h0, hrs0, hap⟩ := h
  have hrow := rowBelow h0 hb
  have hs := hrow.stored i r
  have hg := (h0.lt g rfl)
  have hrs := (hrs0.below hb).grown hs.2 (fun k hk x hx e => by
    have := hap k hk x hx
    simp [Value.ownBlock] at this e
    exact this e)
  have hr2 := (hr.mono hB).grown hs.2 (fun x hx e => by
    have := (hr.lt x hx).1
    simp at e
    omega)
  have hil : i < rs.length := by rw [hrs0.len]; exact hi
  refine ⟨rs.set i r, by rw [List.length_set]; exact hs.1, ⟨by simp [hrs0.len], fun k hk => ?_, fun j k hjk hk x hx => ?_⟩, fun k hk x hx => ?_⟩
  · rw [List.length_set] at hk
    rw [getD_set _ _ _ _ _ hil, getD_set _ _ _ _ _ hi]
    by_cases e : k = i
    · rw [if_pos e, if_pos e]; exact hr2
    · rw [if_neg e, if_neg e]; exact hrs.own k hk
  · rw [List.length_set] at hk
    rw [getD_set _ _ _ _ _ hil] at hx ⊢
    by_cases e : j = i
    · rw [if_pos e] at hx
      rw [if_neg (by omega)]
      intro h2
      have := (hr.lt x hx).1
      have := (hrs0.lt k hk x h2).2
      omega
    · rw [if_neg e] at hx
      by_cases e2 : k = i
      · rw [if_pos e2]
        intro h2
        have := (hr.lt x h2).1
        have := (hrs0.lt j (by omega) x hx).2
        omega
      · rw [if_neg e2]
        exact hrs0.apart j k hjk hk x hx
  · rw [List.length_set] at hk
    rw [getD_set _ _ _ _ _ hil] at hx
    by_cases e : k = i
    · rw [if_pos e] at hx
      have := (hr.lt x hx).1
      intro h2
      simp [Value.ownBlock] at h2
      omega
    · rw [if_neg e] at hx
      exact hap k hk x hx
end Go.Proofs.Ytfjhocmnafdnfaa
