/- The laws' helpers over lists of lists: szIntSS, eqIntSS, toIntSS, markIntSS, heldIntSS; objects of a call's own. -/
import Derived.Test.YtgjdaeaiheibbaaRw
import Derived.Deep.RegionHeld3
namespace Go.Proofs.Ytgjdaeaiheibbaa
set_option maxRecDepth 100000
open Go.RowKit

theorem szIntS_yes (a : Option Addr) (n cap : Nat) (left : Int) (w : World) (h1 : (n : Int) ≤ left) (h2 : left ≤ 1048576) : Calls Try.prog 17 #[.slice a n cap, .int .i64 left] w (Ret w (.int .i64 (left - n))) := by
  go_enter Try.func17, Try.ntmps17
  go_wp2_with fail
  go_returns
  exact ⟨rfl, by go_grown⟩
theorem szIntS_no (a : Option Addr) (n cap : Nat) (left : Int) (w : World) (h0 : 0 ≤ left) (h1 : left < (n : Int)) (h2 : left ≤ 1048576) (h3 : n ≤ 9223372036854775807) : Calls Try.prog 17 #[.slice a n cap, .int .i64 left] w (Ret w (.int .i64 (-1))) := by
  go_enter Try.func17, Try.ntmps17
  go_wp2_with fail
  go_returns
  exact ⟨rfl, by go_grown⟩
/-! ### toIntSS: a copy of the call's own -/
theorem made_rows (n : Nat) : (madeCells #[Value.slice none 0 0] n).toList = List.replicate n (Value.slice none 0 0) := by
  apply List.ext_getElem
  · simp [madeCells]
  · intro i h1 h2
    simp [madeCells, Nat.mod_one]
theorem rows_at (rs : List Value) (n j : Nat) (hr : rs.length = j) (hj : j < n) : (rs ++ List.replicate (n - j) (Value.slice none 0 0))[j]? = some (.slice none 0 0) := by
  subst hr
  rw [List.getElem?_append_right (Nat.le_refl _), Nat.sub_self, List.getElem?_replicate, if_pos (by omega)]
theorem rows_set (rs : List Value) (n j : Nat) (hr : rs.length = j) (hj : j < n) (r : Value) : (rs ++ List.replicate (n - j) (Value.slice none 0 0)).set j r = (rs ++ [r]) ++ List.replicate (n - (j + 1)) (Value.slice none 0 0) := by
  subst hr
  rw [List.set_append_right _ _ (Nat.le_refl _), Nat.sub_self, show n - rs.length = (n - (rs.length + 1)) + 1 by omega, List.replicate_succ, List.set_cons_zero, List.append_assoc]
  rfl
theorem take_snoc (ll : List (List Int)) (j : Nat) (hj : j < ll.length) : ll.take (j + 1) = ll.take j ++ [ll.getD j []] := by
  rw [List.take_succ_eq_append_getElem hj, getD_at ll j hj]
/-! ### marks -/
def mkR (k : Int) (ll : List (List Int)) : List (List Int) := (List.range ll.length).map fun i => marks (k + (tot (ll.take i) : Nat)) (ll.getD i []).length
theorem mkR_length (k : Int) (ll : List (List Int)) : (mkR k ll).length = ll.length := by simp [mkR]
theorem mkR_getD (k : Int) (ll : List (List Int)) (i : Nat) (h : i < ll.length) : (mkR k ll).getD i [] = marks (k + (tot (ll.take i) : Nat)) (ll.getD i []).length := by
  simp [mkR, List.getD, h]
/-- What row i holds when j rows are marked. -/
def mixR (k : Int) (ll : List (List Int)) (j i : Nat) : List Int := if i < j then marks (k + (tot (ll.take i) : Nat)) (ll.getD i []).length else ll.getD i []
/-! ### objects -/
/-- The blocks that were born between two sizes. -/
def born (B n : Nat) (k : Nat) : Prop := B ≤ k ∧ k < n
/-- A list of lists in the blocks of S. -/
def OM (w : World) (S : Nat → Prop) (v : Value) (ll : List (List Int)) : Prop :=
  (∃ rs, w.ownsRow 0 22 1 v ll.length rs ∧ RowsOf w 0 rs ll ∧ (∀ i, i < ll.length → ∀ k, (rs.getD i (.slice none 0 0)).ownBlock = some k → v.ownBlock ≠ some k) ∧
    (∀ k, v.ownBlock = some k → S k) ∧ ∀ i, i < ll.length → ∀ k, (rs.getD i (.slice none 0 0)).ownBlock = some k → S k) ∧ ∀ k, S k → k < w.heap.size
theorem OM.hi {w : World} {S : Nat → Prop} {v : Value} {ll : List (List Int)} (h : OM w S v ll) : ∀ k, S k → k < w.heap.size := h.2
theorem OM.of {w : World} {B : Nat} {v : Value} {ll : List (List Int)} (B0 : Nat) (h : OwnR w B v ll) (hB : B0 ≤ B) : OM w (born B0 w.heap.size) v ll := by
  obtain ⟨rs, h1, h2, h3⟩ := h
  exact ⟨⟨rs, rowMono h1 (Nat.zero_le _), h2.mono (Nat.zero_le _), h3, fun k hk => ⟨Nat.le_trans hB (h1.lt k hk).1, (h1.lt k hk).2⟩, fun i hi k hk => ⟨Nat.le_trans hB (h2.lt i hi k hk).1, (h2.lt i hi k hk).2⟩⟩, fun k hk => hk.2⟩
theorem OM.is {w : World} {S : Nat → Prop} {v : Value} {ll : List (List Int)} (h : OM w S v ll) : IR w v ll := by
  obtain ⟨⟨rs, h1, h2, h3, -, -⟩, -⟩ := h
  exact OwnR.is (B := 0) ⟨rs, h1, h2, h3⟩
theorem OM.below {w w' : World} {S : Nat → Prop} {v : Value} {ll : List (List Int)} (h : OM w S v ll) (hb : Below w.heap.size w w') : OM w' S v ll := by
  obtain ⟨⟨rs, h1, h2, h3, h4, h5⟩, h6⟩ := h
  exact ⟨⟨rs, rowBelow h1 hb, h2.below hb, h3, h4, h5⟩, fun k hk => Nat.lt_of_lt_of_le (h6 k hk) hb.size⟩
theorem OM.alloc {w : World} {S : Nat → Prop} {v : Value} {ll : List (List Int)} (h : OM w S v ll) (o : Obj) : OM (w.alloc o) S v ll := by
  obtain ⟨⟨rs, h1, h2, h3, h4, h5⟩, h6⟩ := h
  exact ⟨⟨rs, World.ownsRow.alloc h1 o, h2.alloc o, h3, h4, h5⟩, fun k hk => by have := h6 k hk; simp; omega⟩
theorem row_touch {w w' : World} {S : Nat → Prop} {B : Nat} {E : TypeId} {z : Nat} {v : Value} {n : Nat} {xs : List Value} (h : w.ownsRow B E z v n xs) (ht : Touch w w' S) (hd : ∀ k, v.ownBlock = some k → ¬ S k) : w'.ownsRow B E z v n xs := by
  refine ⟨h.1, ?_⟩
  rcases h.2 with hn | ⟨g, cap, cur, rfl, hg, hh, rest⟩
  · exact .inl hn
  · exact .inr ⟨g, cap, cur, rfl, hg, (ht.block g (Array.getElem?_eq_some_iff.1 hh).1 (hd g rfl)).trans hh, rest⟩
theorem OM.touch {w w' : World} {S S' : Nat → Prop} {v : Value} {ll : List (List Int)} (h : OM w S v ll) (ht : Touch w w' S') (hd : ∀ k, S k → ¬ S' k) : OM w' S v ll := by
  obtain ⟨⟨rs, h1, h2, h3, h4, h5⟩, h6⟩ := h
  exact ⟨⟨rs, row_touch h1 ht (fun k hk => hd k (h4 k hk)), ⟨h2.len, fun i hi => row_touch (h2.own i hi) ht (fun k hk => hd k (h5 i hi k hk)), h2.apart⟩, h3, h4, h5⟩, fun k hk => Nat.lt_of_lt_of_le (h6 k hk) ht.size⟩
end Go.Proofs.Ytgjdaeaiheibbaa
