/- Slices of whole numbers: what reads as a list, what the call owns; the laws' helpers toIntS, eqIntS, markIntS, heldIntS. -/
import Derived.Test.YtmckophclehkpaaDoorRows
import Derived.Test.YtmckophclehkpaaDoorBase
namespace Go.Proofs.YtmckophclehkpaaDoor
open Go.RowKit

/-- The value reads as the list l. -/
def IS (w : World) (v : Value) (l : List Int) : Prop :=
  (l = [] ∧ ∃ a cap, v = .slice a 0 cap) ∨
  (l ≠ [] ∧ ∃ b off cap, v = .slice (some ⟨b, off, none⟩) l.length cap ∧ l.length ≤ maxLen ∧ ∀ i, i < l.length → w.cell? ⟨b, off + i, none⟩ = some (.int .i64 (l.getD i 0)))
/-- The value is a row of the call's own that reads as l. -/
def Own (w : World) (B : Nat) (v : Value) (l : List Int) : Prop := w.ownsRow B 3 1 v l.length (l.map (Value.int .i64))
/-- From k on upward, n of them. -/
def marks (k : Int) (n : Nat) : List Int := (List.range n).map (fun (i : Nat) => k + (i : Int))
theorem marks_length (k : Int) (n : Nat) : (marks k n).length = n := by simp [marks]
theorem marks_succ (k : Int) (n : Nat) : marks k (n + 1) = marks k n ++ [k + n] := by simp [marks, List.range_succ]
theorem marks_getD (k : Int) (n i : Nat) (h : i < n) : (marks k n).getD i 0 = k + i := by simp [marks, List.getD, h]

theorem IS.below {w w' : World} {v : Value} {l : List Int} (h : IS w v l) (hb : Below w.heap.size w w') : IS w' v l := by
  rcases h with h | ⟨hn, b, off, cap, hv, hm, hc⟩
  · exact Or.inl h
  · exact Or.inr ⟨hn, b, off, cap, hv, hm, fun i hi => keepc hb (hc i hi)⟩
theorem IS.nil (w : World) : IS w (.slice none 0 0) [] := Or.inl ⟨rfl, none, 0, rfl⟩
theorem Own.is {w : World} {B : Nat} {v : Value} {l : List Int} (h : Own w B v l) : IS w v l := by
  rcases h.2 with ⟨rfl, h0⟩ | ⟨g, cap, cur, rfl, hg, hh, hn, hcap, hsz, htake⟩
  · rw [List.length_eq_zero_iff.1 h0]; exact IS.nil w
  · by_cases hl : l = []
    · subst hl; exact Or.inl ⟨rfl, _, _, rfl⟩
    · refine Or.inr ⟨hl, g, 0, cap, rfl, by omega, fun i hi => ?_⟩
      have h' : w.ownsRow B 3 1 (.slice (some ⟨g, 0, none⟩) l.length cap) l.length (l.map (Value.int .i64)) := h
      rw [Nat.zero_add, h'.cellAt i (by omega)]
      simp [List.getD, List.getElem?_eq_getElem hi]
theorem Own.lt {w : World} {B : Nat} {v : Value} {l : List Int} (h : Own w B v l) : ∀ k, v.ownBlock = some k → B ≤ k ∧ k < w.heap.size := World.ownsRow.lt h
theorem Own.below {w w' : World} {B : Nat} {v : Value} {l : List Int} (h : Own w B v l) (hb : Below w.heap.size w w') : Own w' B v l := by
  refine ⟨h.1, ?_⟩
  rcases h.2 with hn | ⟨g, cap, cur, hv, hg, hh, rest⟩
  · exact .inl hn
  · exact .inr ⟨g, cap, cur, hv, hg, (hb.block g (Array.getElem?_eq_some_iff.1 hh).1).trans hh, rest⟩
theorem Own.grown {w w' : World} {B : Nat} {v : Value} {l : List Int} {row : Option Nat} (h : Own w B v l) (hg : w.grownBy w' row) (hne : ∀ k, v.ownBlock = some k → row ≠ some k) : Own w' B v l :=
  World.ownsRow.kept h hg (by cases hv : v.ownBlock with | none => exact Or.inl rfl | some k => exact Or.inr (fun e => hne k hv e.symm))
theorem Own.mono {w : World} {B B' : Nat} {v : Value} {l : List Int} (h : Own w B v l) (hB : B' ≤ B) : Own w B' v l := by
  refine ⟨h.1, ?_⟩
  rcases h.2 with hn | ⟨g, cap, cur, hv, hg, rest⟩
  · exact .inl hn
  · exact .inr ⟨g, cap, cur, hv, Nat.le_trans hB hg, rest⟩
theorem Own.len {w : World} {B : Nat} {v : Value} {l : List Int} (h : Own w B v l) : l.length ≤ maxLen := by
  rcases h.2 with ⟨_, h0⟩ | ⟨g, cap, cur, hv, hg, hh, hn, hcap, _⟩
  · rw [h0]; exact Nat.zero_le _
  · omega
/-- The parts of an own row that is not nil. -/
theorem Own.cases {w : World} {B : Nat} {v : Value} {l : List Int} (h : Own w B v l) : (l = [] ∧ v = .slice none 0 0) ∨ ∃ g cap, v = .slice (some ⟨g, 0, none⟩) l.length cap ∧ B ≤ g ∧ g < w.heap.size := by
  rcases h.2 with ⟨rfl, h0⟩ | ⟨g, cap, cur, rfl, hg, hh, rest⟩
  · exact Or.inl ⟨List.length_eq_zero_iff.1 h0, rfl⟩
  · exact Or.inr ⟨g, cap, rfl, hg, (Array.getElem?_eq_some_iff.1 hh).1⟩

theorem maxLen_val : maxLen ≤ 9223372036854775807 := by unfold maxLen; omega

/-! ### eqIntS at one list -/
/-! ### heldIntS at a marked slice -/
/-! ### markIntS over a row of the call's own -/
theorem set_marks (k : Int) (l : List Int) (j : Nat) (hj : j < l.length) : ((marks k j ++ l.drop j).map (Value.int .i64)).set j (.int .i64 (k + j)) = (marks k (j + 1) ++ l.drop (j + 1)).map (Value.int .i64) := by
  rw [← List.map_set]
  congr 1
  rw [List.set_append_right _ _ (by rw [marks_length]; exact Nat.le_refl _), marks_length, Nat.sub_self, marks_succ]
  rw [List.drop_eq_getElem_cons hj, List.set_cons_zero, List.append_assoc]
  rfl
theorem len_marks (k : Int) (l : List Int) (j : Nat) (hj : j ≤ l.length) : (marks k j ++ l.drop j).length = l.length := by simp [marks_length]; omega
theorem grown_trans {w w1 w2 : World} {row : Option Nat} (h : w.grownBy w1 row) (h' : w1.grownBy w2 row) : w.grownBy w2 row :=
  ⟨h'.os.trans h.os, h'.tape.trans h.tape, h'.output.trans h.output, Nat.le_trans h.size h'.size, fun k hk hne => (h'.block k (Nat.lt_of_lt_of_le hk h.size) hne).trans (h.block k hk hne)⟩
/-- What marking leaves. -/
def Marked (w : World) (B : Nat) (v : Value) (k : Int) (n : Nat) (e : Ending) (w' : World) : Prop := e = .returned (.int .i64 (k + n)) ∧ Own w' B v (marks k n) ∧ w.grownBy w' v.ownBlock
/-! ### toIntS: a copy of the call's own -/
theorem infoInt : (Tryd.prog.info? 3).map (fun i => (i.zero, i.size, i.bytes)) = some (some (.int .i64 0), 1, 8) := by kernel_rfl
/-- A call that makes a list of its own. -/
def Makes (w : World) (l : List Int) (e : Ending) (w' : World) : Prop := ∃ v, e = .returned v ∧ Own w' w.heap.size v l ∧ Below w.heap.size w w'
theorem made_zeros (n : Nat) : (madeCells #[Value.int .i64 0] n).toList = (List.replicate n (0 : Int)).map (Value.int .i64) := by
  apply List.ext_getElem
  · simp [madeCells]
  · intro i h1 h2
    simp [madeCells, Nat.mod_one]
theorem copy_at (l : List Int) (j : Nat) (hj : j < l.length) : ((l.take j ++ List.replicate (l.length - j) (0 : Int)).map (Value.int .i64))[j]? = some (.int .i64 0) := by
  have ht : (l.take j).length = j := by simp; omega
  rw [List.getElem?_map, List.getElem?_append_right (by omega), ht, Nat.sub_self, List.getElem?_replicate, if_pos (by omega)]
  rfl
theorem set_copy (l : List Int) (m : Nat) (hm : m = l.length) (j : Nat) (hj : j < l.length) : ((l.take j ++ List.replicate (m - j) (0 : Int)).map (Value.int .i64)).set j (.int .i64 (l.getD j 0)) = (l.take (j + 1) ++ List.replicate (m - (j + 1)) (0 : Int)).map (Value.int .i64) := by
  subst hm
  have ht : (l.take j).length = j := by simp; omega
  rw [← List.map_set]
  congr 1
  rw [List.set_append_right _ _ (by rw [ht]; exact Nat.le_refl _), ht, Nat.sub_self, List.take_succ_eq_append_getElem hj]
  rw [show l.length - j = (l.length - (j + 1)) + 1 by omega, List.replicate_succ, List.set_cons_zero, List.append_assoc]
  simp [List.getD, List.getElem?_eq_getElem hj]
end Go.Proofs.YtmckophclehkpaaDoor
