/- A list of lists of the call's own: made empty, one number of one row written. -/
import Derived.Test.YtcagiecgbjnefabRwL
import Derived.Test.YtcagiecgbjnefabMaX
namespace Go.Proofs.Ytcagiecgbjnefab
set_option maxRecDepth 100000
open Go.RowKit

theorem repl_getD {α : Type} (n i : Nat) (x : α) : (List.replicate n x).getD i x = x := by
  simp only [List.getD, List.getElem?_replicate]
  split <;> rfl
/-- Rows that are made: nil all of them. -/
theorem OwnR.made {w : World} {B : Nat} {v : Value} {n : Nat} (h : w.ownsRow B 22 1 v n (List.replicate n (.slice none 0 0))) : OwnR w B v (List.replicate n []) := by
  refine ⟨List.replicate n (.slice none 0 0), by rw [List.length_replicate]; exact h, ⟨by simp, fun i _ => ?_, fun i j _ _ k hk => ?_⟩, fun i _ k hk => ?_⟩
  · rw [repl_getD, repl_getD]; exact World.ownsRow_nil _ _ _ _
  · rw [repl_getD] at hk; cases hk
  · rw [repl_getD] at hk; cases hk
theorem Own.put {w : World} {B : Nat} {g n c : Nat} {l : List Int} (h : Own w B (.slice (some ⟨g, 0, none⟩) n c) l) (j : Nat) (y : Int) :
    Own (w.setCell ⟨g, j, none⟩ (.int .i64 y)) B (.slice (some ⟨g, 0, none⟩) n c) (l.set j y) ∧ w.grownBy (w.setCell ⟨g, j, none⟩ (.int .i64 y)) (some g) := by
  have hn : n = l.length := by
    rcases h.2 with ⟨h0, _⟩ | ⟨_, _, _, h0, _⟩
    · cases h0
    · simp only [Value.slice.injEq] at h0; exact h0.2.1
  subst hn
  have hs := World.ownsRow.stored h j (.int .i64 y)
  refine ⟨?_, hs.2⟩
  unfold Own
  rw [List.length_set, List.map_set]
  exact hs.1
/-- One number of one row. -/
theorem OwnR.cellSet {w : World} {B g n cap : Nat} {ll : List (List Int)} (h : OwnR w B (.slice (some ⟨g, 0, none⟩) n cap) ll) (hn : n = ll.length) (i : Nat) (hi : i < ll.length) (j : Nat) (hj : j < (ll.getD i []).length) :
    ∃ k c, w.cell? ⟨g, i, none⟩ = some (.slice (some ⟨k, 0, none⟩) (ll.getD i []).length c) ∧ w.cell? ⟨k, j, none⟩ = some (.int .i64 ((ll.getD i []).getD j 0)) ∧ w.frozen? ⟨k, j, none⟩ = false ∧ B ≤ k ∧ k < w.heap.size ∧
      ∀ y, OwnR (w.setCell ⟨k, j, none⟩ (.int .i64 y)) B (.slice (some ⟨g, 0, none⟩) n cap) (ll.set i ((ll.getD i []).set j y)) := by
  subst hn
  obtain ⟨rs, h0, hrs, hap⟩ := h
  have hi2 := hrs.own i hi
  have hil : i < rs.length := by rw [hrs.len]; exact hi
  have hc := h0.cellAt i (by omega)
  rw [show rs[i]? = some (rs.getD i (.slice none 0 0)) by simp [List.getD, hil]] at hc
  rcases hi2.cases with ⟨he, _⟩ | ⟨k, c, hv, hBk, hkw⟩
  · rw [he] at hj; simp at hj
  · rw [hv] at hc hi2
    have hnb : ∀ q, q < ll.length → q ≠ i → ∀ x, (rs.getD q (.slice none 0 0)).ownBlock = some x → x ≠ k := fun q hq hqi x hx e => by
      subst e
      rcases Nat.lt_or_gt_of_ne hqi with hlt | hgt
      · have := hrs.apart q i hlt hi x hx
        rw [hv] at this
        exact this rfl
      · have := hrs.apart i q hgt hq x (by rw [hv]; rfl)
        exact this hx
    have hgk : g ≠ k := fun e => by
      have := hap i hi k (by rw [hv]; rfl)
      apply this
      rw [e]; rfl
    have hca := World.ownsRow.cellAt hi2 j (by omega)
    rw [List.getElem?_map, show (ll.getD i [])[j]? = some ((ll.getD i []).getD j 0) from by simp only [List.getD] at hj ⊢; simp [hj]] at hca
    refine ⟨k, c, hc, hca, World.ownsRow.frozenAt hi2 j, hBk, hkw, fun y => ?_⟩
    have hp := hi2.put j y
    refine ⟨rs, ?_, ⟨by rw [List.length_set]; exact hrs.len, fun q hq => ?_, fun q q' h1 h2 => hrs.apart q q' h1 (by simpa using h2)⟩, fun q hq => hap q (by simpa using hq)⟩
    · rw [List.length_set]
      exact World.ownsRow.kept h0 hp.2 (Or.inr (fun e => by
        simp only [Value.ownBlock, Option.some.injEq] at e
        exact hgk e))
    · rw [List.length_set] at hq
      rw [getD_set _ _ _ _ _ hi]
      by_cases e : q = i
      · rw [if_pos e, e, hv]; exact hp.1
      · rw [if_neg e]
        exact (hrs.own q hq).grown hp.2 (fun x hx e2 => hnb q hq e x hx (by simpa using e2.symm))
end Go.Proofs.Ytcagiecgbjnefab
