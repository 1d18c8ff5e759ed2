/- A list of lists of the call's own: a whole row written. -/
import Derived.Test.YtjoepdflbbcliaaRwC
namespace Go.Proofs.Ytjoepdflbbcliaa
set_option maxRecDepth 100000
open Go.RowKit

theorem grown_of {S : Nat} {w0 w w' : World} {k : Nat} (hb : Below S w0 w) (hb' : Below S w0 w') (hs : w'.heap.size = w.heap.size) (ho : ∀ q, q ≠ k → w'.heap[q]? = w.heap[q]?) : w.grownBy w' (some k) :=
  ⟨hb'.os.trans hb.os.symm, hb'.tape.trans hb.tape.symm, hb'.output.trans hb.output.symm, Nat.le_of_eq hs.symm, fun q _ hne => ho q (fun e => hne (by rw [e]))⟩
/-- The row at i: its block, its cells; and what a world is in which that block alone has other cells. -/
theorem OwnR.rowPut {w : World} {B g n cap : Nat} {ll : List (List Int)} (h : OwnR w B (.slice (some ⟨g, 0, none⟩) n cap) ll) (hn : n = ll.length) (i : Nat) (hi : i < ll.length) {k c len : Nat} (hc : w.cell? ⟨g, i, none⟩ = some (.slice (some ⟨k, 0, none⟩) len c)) :
    len = (ll.getD i []).length ∧ B ≤ k ∧ k < w.heap.size ∧ ∃ cur : Array Value, w.heap[k]? = some (.cells cur 3 (0, 0)) ∧ cur.size = c ∧ len ≤ c ∧ cur.toList.take len = (ll.getD i []).map (Value.int .i64) ∧
      ∀ (w' : World) (cs : Array Value) (L : List Int), w.grownBy w' (some k) → w'.heap[k]? = some (.cells cs 3 (0, 0)) → cs.size = c → L.length = len → cs.toList.take len = L.map (Value.int .i64) → OwnR w' B (.slice (some ⟨g, 0, none⟩) n cap) (ll.set i L) := by
  subst hn
  obtain ⟨rs, h0, hrs, hap⟩ := h
  have hi2 := hrs.own i hi
  have hil : i < rs.length := by rw [hrs.len]; exact hi
  have hc2 := h0.cellAt i (by omega)
  rw [show rs[i]? = some (rs.getD i (.slice none 0 0)) by simp [List.getD, hil], hc] at hc2
  have hv := (Option.some.inj hc2).symm
  rw [hv] at hi2
  rcases hi2.2 with ⟨h0', _⟩ | ⟨k', c', cur, he, hBk, hh, h1, h2, h3, h4⟩
  · cases h0'
  · simp only [Value.slice.injEq, Option.some.injEq, Addr.mk.injEq] at he
    obtain ⟨⟨rfl, -, -⟩, hlen, rfl⟩ := he
    have hkw := (Array.getElem?_eq_some_iff.1 hh).1
    have hnb : ∀ q, q < ll.length → q ≠ i → ∀ x, (rs.getD q (.slice none 0 0)).ownBlock = some x → x ≠ k := fun q hq hqi x hx e => by
      subst e
      rcases Nat.lt_or_gt_of_ne hqi with hlt | hgt
      · have := hrs.apart q i hlt hi x hx
        rw [hv] at this
        exact this rfl
      · have := hrs.apart i q hgt hq x (by rw [hv]; rfl)
        exact this hx
    have hgk : g ≠ k := fun e => by
      have := hap i hi k (by rw [hv]; rfl)
      apply this
      rw [e]; rfl
    refine ⟨hlen, hBk, hkw, cur, hh, by omega, by omega, by rw [hlen]; simpa using h4, fun w' cs L hg hw' hcs hL hT => ?_⟩
    refine ⟨rs, ?_, ⟨by rw [List.length_set]; exact hrs.len, fun q hq => ?_, fun q q' h1 h2 => hrs.apart q q' h1 (by simpa using h2)⟩, fun q hq => hap q (by simpa using hq)⟩
    · rw [List.length_set]
      exact World.ownsRow.kept h0 hg (Or.inr (fun e => by
        simp only [Value.ownBlock, Option.some.injEq] at e
        exact hgk e))
    · rw [List.length_set] at hq
      rw [getD_set _ _ _ _ _ hi]
      by_cases e : q = i
      · rw [if_pos e, e, hv]
        refine ⟨by simp, Or.inr ⟨k, c, cs, by rw [hL], hBk, hw', by omega, h2, by omega, ?_⟩⟩
        rw [Nat.mul_one, hL]
        exact hT
      · rw [if_neg e]
        exact (hrs.own q hq).grown hg (fun x hx e2 => hnb q hq e x hx (by simpa using e2.symm))
end Go.Proofs.Ytjoepdflbbcliaa
