/- Lists of lists of Gaussian numbers. -/
import Derived.Test.YtccjmigdebchiaaRw
namespace Go.Proofs.Ytccjmigdebchiaa
set_option maxRecDepth 100000
open Go.RowKit

/-! ### reading -/
def IRG (w : World) (v : Value) (ll : List (List (Int × Int))) : Prop :=
  (ll = [] ∧ ∃ a cap, v = .slice a 0 cap) ∨
  (ll ≠ [] ∧ ∃ b off cap, v = .slice (some ⟨b, off, none⟩) ll.length cap ∧ ll.length ≤ maxLen ∧ ∀ i, i < ll.length → ∃ u, w.cell? ⟨b, off + i, none⟩ = some u ∧ IG w u (ll.getD i []))
theorem IRG.below {w w' : World} {v : Value} {ll : List (List (Int × Int))} (h : IRG w v ll) (hb : Below w.heap.size w w') : IRG w' v ll := by
  rcases h with h | ⟨hn, b, off, cap, hv, hm, hc⟩
  · exact Or.inl h
  · refine Or.inr ⟨hn, b, off, cap, hv, hm, fun i hi => ?_⟩
    obtain ⟨u, h1, h2⟩ := hc i hi
    exact ⟨u, keepc hb h1, h2.below hb⟩
theorem IRG.slice {w : World} {v : Value} {ll : List (List (Int × Int))} (h : IRG w v ll) : ∃ a cap, v = .slice a ll.length cap := by
  rcases h with ⟨rfl, a, cap, rfl⟩ | ⟨_, b, off, cap, rfl, _⟩ <;> exact ⟨_, _, rfl⟩
theorem IRG.len {w : World} {v : Value} {ll : List (List (Int × Int))} (h : IRG w v ll) : ll.length ≤ maxLen := by
  rcases h with ⟨rfl, _⟩ | ⟨_, b, off, cap, _, hm, _⟩
  · exact Nat.zero_le _
  · exact hm
theorem IRG.nil (w : World) : IRG w (.slice none 0 0) [] := Or.inl ⟨rfl, none, 0, rfl⟩
/-- The row at i: the address of its cell and what lies there. -/
theorem IRG.at {w : World} {a : Option Addr} {cap : Nat} {n : Nat} {ll : List (List (Int × Int))} (h : IRG w (.slice a n cap) ll) (i : Nat) (hi : i < ll.length) : n = ll.length ∧ ∃ b off u, a = some ⟨b, off, none⟩ ∧ w.cell? ⟨b, off + i, none⟩ = some u ∧ IG w u (ll.getD i []) := by
  rcases h with ⟨rfl, _⟩ | ⟨_, b, off, cap', hv, _, hc⟩
  · simp at hi
  · simp only [Value.slice.injEq] at hv
    obtain ⟨rfl, rfl, rfl⟩ := hv
    obtain ⟨u, h1, h2⟩ := hc i hi
    exact ⟨rfl, b, off, u, rfl, h1, h2⟩



/-! ### rows of the call's own -/
structure RowsG (w : World) (B : Nat) (rs : List Value) (ll : List (List (Int × Int))) : Prop where
  len : rs.length = ll.length
  own : ∀ i, i < ll.length → OwnG w B (rs.getD i (.slice none 0 0)) (ll.getD i [])
  apart : ∀ i j, i < j → j < ll.length → ∀ k, (rs.getD i (.slice none 0 0)).ownBlock = some k → (rs.getD j (.slice none 0 0)).ownBlock ≠ some k
theorem RowsG.nil (w : World) (B : Nat) : RowsG w B [] [] := ⟨rfl, fun i h => by simp at h, fun i j _ h => by simp at h⟩
theorem RowsG.lt {w : World} {B : Nat} {rs : List Value} {ll : List (List (Int × Int))} (h : RowsG w B rs ll) (i : Nat) (hi : i < ll.length) : ∀ k, (rs.getD i (.slice none 0 0)).ownBlock = some k → B ≤ k ∧ k < w.heap.size := (h.own i hi).lt
theorem RowsG.below {w w' : World} {B : Nat} {rs : List Value} {ll : List (List (Int × Int))} (h : RowsG w B rs ll) (hb : Below w.heap.size w w') : RowsG w' B rs ll := ⟨h.len, fun i hi => (h.own i hi).below hb, h.apart⟩
theorem RowsG.alloc {w : World} {B : Nat} {rs : List Value} {ll : List (List (Int × Int))} (h : RowsG w B rs ll) (o : Obj) : RowsG (w.alloc o) B rs ll := ⟨h.len, fun i hi => (h.own i hi).alloc o, h.apart⟩
theorem RowsG.mono {w : World} {B B' : Nat} {rs : List Value} {ll : List (List (Int × Int))} (h : RowsG w B rs ll) (hB : B' ≤ B) : RowsG w B' rs ll := ⟨h.len, fun i hi => (h.own i hi).mono hB, h.apart⟩
theorem RowsG.grown {w w' : World} {B : Nat} {rs : List Value} {ll : List (List (Int × Int))} {row : Option Nat} (h : RowsG w B rs ll) (hg : w.grownBy w' row) (hne : ∀ i, i < ll.length → ∀ k, (rs.getD i (.slice none 0 0)).ownBlock = some k → row ≠ some k) : RowsG w' B rs ll :=
  ⟨h.len, fun i hi => (h.own i hi).grown hg (hne i hi), h.apart⟩
theorem RowsG.push {w : World} {B : Nat} {rs : List Value} {ll : List (List (Int × Int))} (h : RowsG w B rs ll) {r : Value} {l : List (Int × Int)} (hr : OwnG w B r l)
    (ha : ∀ i, i < ll.length → ∀ k, (rs.getD i (.slice none 0 0)).ownBlock = some k → r.ownBlock ≠ some k) : RowsG w B (rs ++ [r]) (ll ++ [l]) := by
  refine ⟨by simp [h.len], fun i hi => ?_, fun i j hij hj k hk => ?_⟩
  · by_cases e : i < ll.length
    · rw [getD_left _ _ _ _ (by rw [h.len]; exact e), getD_left _ _ _ _ e]; exact h.own i e
    · have : i = ll.length := by simp at hi; omega
      subst this
      rw [getD_end]
      rw [← h.len, getD_end]
      exact hr
  · have hil : i < ll.length := by simp at hj; omega
    rw [getD_left _ _ _ _ (by rw [h.len]; exact hil)] at hk
    by_cases e : j < ll.length
    · rw [getD_left _ _ _ _ (by rw [h.len]; exact e)]; exact h.apart i j hij e k hk
    · have : j = ll.length := by simp at hj; omega
      subst this
      rw [← h.len, getD_end]
      exact ha i hil k hk
/-- A list of lists of the call's own: no two rows share memory, and none lies in the outer row. -/
def OwnRG (w : World) (B : Nat) (v : Value) (ll : List (List (Int × Int))) : Prop :=
  ∃ rs, w.ownsRow B 34 1 v ll.length rs ∧ RowsG w B rs ll ∧ ∀ i, i < ll.length → ∀ k, (rs.getD i (.slice none 0 0)).ownBlock = some k → v.ownBlock ≠ some k
theorem OwnRG.nil (w : World) (B : Nat) : OwnRG w B (.slice none 0 0) [] := ⟨[], World.ownsRow_nil _ _ _ _, RowsG.nil w B, fun i h => by simp at h⟩
theorem OwnRG.len {w : World} {B : Nat} {v : Value} {ll : List (List (Int × Int))} (h : OwnRG w B v ll) : ll.length ≤ maxLen := by
  obtain ⟨rs, h, -, -⟩ := h
  rcases h.2 with ⟨_, h0⟩ | ⟨g, cap, cur, hv, hg, hh, hn, hcap, _⟩
  · rw [h0]; exact Nat.zero_le _
  · omega
theorem OwnRG.is {w : World} {B : Nat} {v : Value} {ll : List (List (Int × Int))} (h : OwnRG w B v ll) : IRG w v ll := by
  have hlen := h.len
  obtain ⟨rs, h, hr, -⟩ := h
  have h' := h
  rcases h.2 with ⟨rfl, h0⟩ | ⟨g, cap, cur, rfl, hg, hh, hn, hcap, hsz, htake⟩
  · exact Or.inl ⟨List.length_eq_zero_iff.1 h0, none, 0, rfl⟩
  · by_cases hl : ll = []
    · subst hl; exact Or.inl ⟨rfl, _, _, rfl⟩
    · have h2 : w.ownsRow B 34 1 (.slice (some ⟨g, 0, none⟩) ll.length cap) ll.length rs := h'
      refine Or.inr ⟨hl, g, 0, cap, rfl, hlen, fun i hi => ⟨rs.getD i (.slice none 0 0), ?_, (hr.own i hi).is⟩⟩
      rw [Nat.zero_add, h2.cellAt i (by omega)]
      have : i < rs.length := by rw [hr.len]; exact hi
      simp [List.getD, this]
theorem OwnRG.mono {w : World} {B B' : Nat} {v : Value} {ll : List (List (Int × Int))} (h : OwnRG w B v ll) (hB : B' ≤ B) : OwnRG w B' v ll := by
  obtain ⟨rs, h, hr, ha⟩ := h
  exact ⟨rs, rowMono h hB, hr.mono hB, ha⟩
theorem OwnRG.below {w w' : World} {B : Nat} {v : Value} {ll : List (List (Int × Int))} (h : OwnRG w B v ll) (hb : Below w.heap.size w w') : OwnRG w' B v ll := by
  obtain ⟨rs, h, hr, ha⟩ := h
  exact ⟨rs, rowBelow h hb, hr.below hb, ha⟩
theorem OwnRG.alloc {w : World} {B : Nat} {v : Value} {ll : List (List (Int × Int))} (h : OwnRG w B v ll) (o : Obj) : OwnRG (w.alloc o) B v ll := by
  obtain ⟨rs, h, hr, ha⟩ := h
  exact ⟨rs, World.ownsRow.alloc h o, hr.alloc o, ha⟩
theorem OwnRG.lt {w : World} {B : Nat} {v : Value} {ll : List (List (Int × Int))} (h : OwnRG w B v ll) : ∀ k, v.ownBlock = some k → B ≤ k ∧ k < w.heap.size := by
  obtain ⟨rs, h, -, -⟩ := h
  exact World.ownsRow.lt h
def MakesRG (w : World) (ll : List (List (Int × Int))) (e : Ending) (w' : World) : Prop := ∃ v, e = .returned v ∧ OwnRG w' w.heap.size v ll ∧ Below w.heap.size w w'
def MakesRGB (w : World) (ll : List (List (Int × Int))) (ok : Bool) (e : Ending) (w' : World) : Prop := ∃ v, e = .returned (.tuple #[v, .bool ok]) ∧ OwnRG w' w.heap.size v ll ∧ Below w.heap.size w w'

/-! ### one row more -/
theorem infoRowG : (Try.prog.info? 34).map (fun i => (i.zero, i.size, i.bytes)) = some (some (.slice none 0 0), 1, 24) := by kernel_rfl
theorem OwnG.oneCell {w : World} {B : Nat} {r : Value} {l : List (Int × Int)} (h : OwnG w B r l) : r.oneCell' = true := by
  rcases h.cases with ⟨_, rfl⟩ | ⟨g, cap, rfl, _⟩ <;> rfl
/-- One row more at the end of a list of lists of the call's own: the list is of an earlier world, the row was made since, and its value lies in a cell of its own. -/
theorem wpList_pushRG {ops : Array Oper} {rest : List Oper} {o : Oper} {a : Act} {w : World} {Q : Exit → Act → World → Prop} (hg : o.guard = none) (s x : Operand)
    (ho : o.op = .call { callee := .builtin .append, args := #[s, x], argTypes := #[43, 43] }) (B : Nat) (v : Value) (ll : List (List (Int × Int))) (hs : a.eval s = v)
    (wr : World) (hown : OwnRG wr B v ll) (hwr : Below wr.heap.size wr w)
    (g c : Nat) (r : Value) (l : List (Int × Int)) (hx : a.eval x = .slice (some ⟨g, 0, none⟩) 1 c) (hc : w.cell? ⟨g, 0, none⟩ = some r) (hr : OwnG w wr.heap.size r l)
    (hlen : ll.length ≤ 1048576)
    (S : Nat) (w0 : World) (hb : Below S w0 w) (hS : S ≤ B) (hB : B ≤ wr.heap.size) (hSw : S ≤ w.heap.size)
    (hK : ∀ v' w', OwnRG w' B v' (ll ++ [l]) → Below S w0 w' → wpList Try.prog ops Q rest (a.put o.dst v') w') : wpList Try.prog ops Q (o :: rest) a w := by
  obtain ⟨i0, hi, hz0, hz1, hz2⟩ := info_parts infoRowG
  obtain ⟨rs, hrow0, hrs0, hapo⟩ := hown
  have hrow := rowBelow hrow0 hwr
  have hrs := hrs0.below hwr
  have hsz := hwr.size
  refine wpList_append_own_at (P := Try.prog) (w := w) hg s x 43 ho B 34 i0 (.slice none 0 0) 1 24 Try.underlying43 hi hz0 hz1 hz2 rfl (by decide) v ll.length rs hs hrow ⟨g, 0, none⟩ 1 c [r] hx rfl ?_ ?_ ?_ ?_ (Nat.le_trans hB hsz) ?_
  · intro j u hj
    match j, hj with
    | 0, hj => simp at hj; subst hj; simpa [Addr.add] using hc
  · intro u hu; simp at hu; subst hu; exact hr.oneCell
  · unfold maxLen; omega
  · omega
  · intro v' w' hown' hgr _ hblk
    have hrv : ∀ k, r.ownBlock = some k → v.ownBlock ≠ some k := fun k h1 h2 => by have := (hr.lt k h1).1; have := (hrow0.lt k h2).2; omega
    refine hK v' w' ⟨rs ++ [r], ?_, ?_, ?_⟩ (hb.grown hgr hSw (fun k hk => Nat.le_trans hS (hrow.lt k hk).1))
    · rw [List.length_append]; exact hown'
    · refine (hrs.grown hgr (fun i hi k hk => hapo i hi k hk)).push ((hr.mono hB).grown hgr (fun k hk => hrv k hk)) (fun i hi k hk hk' => ?_)
      have h1 := (hr.lt k hk').1
      have h2 := (hrs0.lt i hi k hk).2
      omega
    · intro i hi k hk hk'
      have hlt : k < w.heap.size ∧ v.ownBlock ≠ some k := by
        by_cases e : i < ll.length
        · rw [getD_left _ _ _ _ (by rw [hrs.len]; exact e)] at hk
          exact ⟨(hrs.lt i e k hk).2, hapo i e k hk⟩
        · have : i = ll.length := by simp at hi; omega
          subst this
          rw [← hrs.len, getD_end] at hk
          exact ⟨(hr.lt k hk).2, hrv k hk⟩
      rcases hblk with e | e
      · rw [e] at hk'
        exact hlt.2 hk'
      · rw [e] at hk'
        simp at hk'
        omega
end Go.Proofs.Ytccjmigdebchiaa
