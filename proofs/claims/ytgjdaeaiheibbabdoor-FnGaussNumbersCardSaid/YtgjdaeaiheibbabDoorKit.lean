/- Plain words of these proofs: worlds that keep what was there, and slices of whole numbers. Slices of whole numbers: what reads as a list, what the call owns; the laws' helpers toIntS, eqIntS, markIntS, heldIntS. What the walks of the laws share. Rows of the call's own behind a new block; the cells of a new block of two. Rows of the call's own, kept by a call that keeps what was there. Which lists are sequences: the model's phIs, the program's IsSequence. The model's phBoth. -/
import Derived.Handy
import Derived.WalkSpells
import Derived.WalkLawsBesides
import Derived.SizedLaws
import Derived.Lib.SmallJoins
import Derived.Deep.RegionHeld3
import Derived.Deep.QuietTactic
import Derived.BigQuiet
import Derived.Lib.Hide
import Derived.Test.YtgjdaeaiheibbabDoorRows
namespace Go.Proofs.YtgjdaeaiheibbabDoor
set_option maxRecDepth 100000
section
open Go.RowKit

/-- The call returns v, and all that was there before is as it was. -/
def Ret (w : World) (v : Value) (e : Ending) (w' : World) : Prop := e = .returned v ∧ Below w.heap.size w w'

theorem ret_bool {a b : Bool} (h : a = b) : Ending.returned (.bool a) = Ending.returned (.bool b) := by rw [h]
theorem ret_int {k : IntKind} {a b : Int} (h : a = b) : Ending.returned (.int k a) = .returned (.int k b) := by rw [h]
theorem ret_eq {a b : Value} (h : a = b) : Ending.returned a = Ending.returned b := by rw [h]

theorem via {B : Nat} {w Wi w' : World} (hb : Below Wi.heap.size Wi w') (hB : B ≤ Wi.heap.size) (h : Below B w Wi) : Below B w w' := h.trans (hb.mono hB)

/-- What a call that keeps what was there leaves to read: cells, marks, the size. -/
theorem after {W w1 : World} (hb : Below W.heap.size W w1) : (∀ b o, b < W.heap.size → w1.cell? ⟨b, o, none⟩ = W.cell? ⟨b, o, none⟩) ∧ (∀ b o, b < W.heap.size → w1.frozen? ⟨b, o, none⟩ = W.frozen? ⟨b, o, none⟩) ∧ W.heap.size ≤ w1.heap.size :=
  ⟨fun b o h => hb.cell (p := ⟨b, o, none⟩) h, fun b o h => hb.frozen (p := ⟨b, o, none⟩) h, hb.size⟩

/-- A cell that was there is there behind such a call. -/
theorem keepc {w w1 : World} (hb : Below w.heap.size w w1) {a : Addr} {v : Value} (h : w.cell? a = some v) : w1.cell? a = some v :=
  (hb.cell (World.block_lt_of_cell? w a h)).trans h
theorem keepa {w : World} (o : Obj) {a : Addr} {v : Value} (h : w.cell? a = some v) : (w.alloc o).cell? a = some v :=
  (World.cell?_alloc_old w o a (Nat.ne_of_lt (World.block_lt_of_cell? w a h))).trans h
theorem keepd {w : World} {a : Addr} {v : Value} (h : w.cell? a = some v) : w.drew.cell? a = some v := h
theorem belowa {W w : World} (h : Below W.heap.size W w) (o : Obj) : Below W.heap.size W (w.alloc o) := h.alloc h.size o
theorem keeps {w : World} {a b : Addr} {u v : Value} (h : w.cell? a = some v) (hne : b.block ≠ a.block) : (w.setCell b u).cell? a = some v :=
  (World.cell?_setCell_other _ _ _ _ (fun e => hne (by rw [e]))).trans h
theorem belows {W w : World} (h : Below W.heap.size W w) {b : Addr} (hb : W.heap.size ≤ b.block) (u : Value) : Below W.heap.size W (w.setCell b u) := h.setCell hb u
theorem belowN {B : Nat} {W w : World} (h : Below B W w) (n : Nat) : Below B W (w.drewN n) := ⟨h.os, h.tape, h.output, h.size, h.block⟩
theorem Ret.of {w : World} {v : Value} {w' : World} (h : Below w.heap.size w w') : Ret w v (.returned v) w' := ⟨rfl, h⟩
theorem joins {W w w1 : World} (h : Below W.heap.size W w) (hb : Below w.heap.size w w1) : Below W.heap.size W w1 := h.trans (hb.mono h.size)
end
section
open Go.RowKit

/-- The value reads as the list l. -/
def IS (w : World) (v : Value) (l : List Int) : Prop :=
  (l = [] ∧ ∃ a cap, v = .slice a 0 cap) ∨
  (l ≠ [] ∧ ∃ b off cap, v = .slice (some ⟨b, off, none⟩) l.length cap ∧ l.length ≤ maxLen ∧ ∀ i, i < l.length → w.cell? ⟨b, off + i, none⟩ = some (.int .i64 (l.getD i 0)))
/-- The value is a row of the call's own that reads as l. -/
def Own (w : World) (B : Nat) (v : Value) (l : List Int) : Prop := w.ownsRow B 3 1 v l.length (l.map (Value.int .i64))
/-- From k on upward, n of them. -/
def marks (k : Int) (n : Nat) : List Int := (List.range n).map (fun (i : Nat) => k + (i : Int))
theorem marks_length (k : Int) (n : Nat) : (marks k n).length = n := by simp [marks]
theorem marks_succ (k : Int) (n : Nat) : marks k (n + 1) = marks k n ++ [k + n] := by simp [marks, List.range_succ]
theorem marks_getD (k : Int) (n i : Nat) (h : i < n) : (marks k n).getD i 0 = k + i := by simp [marks, List.getD, h]

theorem IS.below {w w' : World} {v : Value} {l : List Int} (h : IS w v l) (hb : Below w.heap.size w w') : IS w' v l := by
  rcases h with h | ⟨hn, b, off, cap, hv, hm, hc⟩
  · exact Or.inl h
  · exact Or.inr ⟨hn, b, off, cap, hv, hm, fun i hi => keepc hb (hc i hi)⟩
theorem IS.shape {w : World} {v : Value} {l : List Int} (hv : IS w v l) : ∃ a cap, v = .slice a l.length cap := by
  rcases hv with ⟨rfl, a, cap, rfl⟩ | ⟨_, b, off, cap, rfl, _⟩ <;> exact ⟨_, _, rfl⟩
theorem IS.nil (w : World) : IS w (.slice none 0 0) [] := Or.inl ⟨rfl, none, 0, rfl⟩
theorem Own.is {w : World} {B : Nat} {v : Value} {l : List Int} (h : Own w B v l) : IS w v l := by
  rcases h.2 with ⟨rfl, h0⟩ | ⟨g, cap, cur, rfl, hg, hh, hn, hcap, hsz, htake⟩
  · rw [List.length_eq_zero_iff.1 h0]; exact IS.nil w
  · by_cases hl : l = []
    · subst hl; exact Or.inl ⟨rfl, _, _, rfl⟩
    · refine Or.inr ⟨hl, g, 0, cap, rfl, by omega, fun i hi => ?_⟩
      have h' : w.ownsRow B 3 1 (.slice (some ⟨g, 0, none⟩) l.length cap) l.length (l.map (Value.int .i64)) := h
      rw [Nat.zero_add, h'.cellAt i (by omega)]
      simp [List.getD, List.getElem?_eq_getElem hi]
theorem Own.lt {w : World} {B : Nat} {v : Value} {l : List Int} (h : Own w B v l) : ∀ k, v.ownBlock = some k → B ≤ k ∧ k < w.heap.size := World.ownsRow.lt h
theorem Own.below {w w' : World} {B : Nat} {v : Value} {l : List Int} (h : Own w B v l) (hb : Below w.heap.size w w') : Own w' B v l := by
  refine ⟨h.1, ?_⟩
  rcases h.2 with hn | ⟨g, cap, cur, hv, hg, hh, rest⟩
  · exact .inl hn
  · exact .inr ⟨g, cap, cur, hv, hg, (hb.block g (Array.getElem?_eq_some_iff.1 hh).1).trans hh, rest⟩
theorem Own.grown {w w' : World} {B : Nat} {v : Value} {l : List Int} {row : Option Nat} (h : Own w B v l) (hg : w.grownBy w' row) (hne : ∀ k, v.ownBlock = some k → row ≠ some k) : Own w' B v l :=
  World.ownsRow.kept h hg (by cases hv : v.ownBlock with | none => exact Or.inl rfl | some k => exact Or.inr (fun e => hne k hv e.symm))
theorem Own.mono {w : World} {B B' : Nat} {v : Value} {l : List Int} (h : Own w B v l) (hB : B' ≤ B) : Own w B' v l := by
  refine ⟨h.1, ?_⟩
  rcases h.2 with hn | ⟨g, cap, cur, hv, hg, rest⟩
  · exact .inl hn
  · exact .inr ⟨g, cap, cur, hv, Nat.le_trans hB hg, rest⟩
theorem Own.len {w : World} {B : Nat} {v : Value} {l : List Int} (h : Own w B v l) : l.length ≤ maxLen := by
  rcases h.2 with ⟨_, h0⟩ | ⟨g, cap, cur, hv, hg, hh, hn, hcap, _⟩
  · rw [h0]; exact Nat.zero_le _
  · omega
/-- The parts of an own row that is not nil. -/
theorem Own.cases {w : World} {B : Nat} {v : Value} {l : List Int} (h : Own w B v l) : (l = [] ∧ v = .slice none 0 0) ∨ ∃ g cap, v = .slice (some ⟨g, 0, none⟩) l.length cap ∧ B ≤ g ∧ g < w.heap.size := by
  rcases h.2 with ⟨rfl, h0⟩ | ⟨g, cap, cur, rfl, hg, hh, rest⟩
  · exact Or.inl ⟨List.length_eq_zero_iff.1 h0, rfl⟩
  · exact Or.inr ⟨g, cap, rfl, hg, (Array.getElem?_eq_some_iff.1 hh).1⟩

theorem maxLen_val : maxLen ≤ 9223372036854775807 := by unfold maxLen; omega

/-! ### eqIntS at one list -/
/-! ### heldIntS at a marked slice -/
/-! ### markIntS over a row of the call's own -/
theorem set_marks (k : Int) (l : List Int) (j : Nat) (hj : j < l.length) : ((marks k j ++ l.drop j).map (Value.int .i64)).set j (.int .i64 (k + j)) = (marks k (j + 1) ++ l.drop (j + 1)).map (Value.int .i64) := by
  rw [← List.map_set]
  congr 1
  rw [List.set_append_right _ _ (by rw [marks_length]; exact Nat.le_refl _), marks_length, Nat.sub_self, marks_succ]
  rw [List.drop_eq_getElem_cons hj, List.set_cons_zero, List.append_assoc]
  rfl
theorem len_marks (k : Int) (l : List Int) (j : Nat) (hj : j ≤ l.length) : (marks k j ++ l.drop j).length = l.length := by simp [marks_length]; omega
theorem grown_trans {w w1 w2 : World} {row : Option Nat} (h : w.grownBy w1 row) (h' : w1.grownBy w2 row) : w.grownBy w2 row :=
  ⟨h'.os.trans h.os, h'.tape.trans h.tape, h'.output.trans h.output, Nat.le_trans h.size h'.size, fun k hk hne => (h'.block k (Nat.lt_of_lt_of_le hk h.size) hne).trans (h.block k hk hne)⟩
/-- What marking leaves. -/
def Marked (w : World) (B : Nat) (v : Value) (k : Int) (n : Nat) (e : Ending) (w' : World) : Prop := e = .returned (.int .i64 (k + n)) ∧ Own w' B v (marks k n) ∧ w.grownBy w' v.ownBlock
/-! ### toIntS: a copy of the call's own -/
theorem infoInt : (Tryd.prog.info? 3).map (fun i => (i.zero, i.size, i.bytes)) = some (some (.int .i64 0), 1, 8) := by kernel_rfl
/-- A call that makes a list of its own. -/
def Makes (w : World) (l : List Int) (e : Ending) (w' : World) : Prop := ∃ v, e = .returned v ∧ Own w' w.heap.size v l ∧ Below w.heap.size w w'
theorem made_zeros (n : Nat) : (madeCells #[Value.int .i64 0] n).toList = (List.replicate n (0 : Int)).map (Value.int .i64) := by
  apply List.ext_getElem
  · simp [madeCells]
  · intro i h1 h2
    simp [madeCells, Nat.mod_one]
theorem copy_at (l : List Int) (j : Nat) (hj : j < l.length) : ((l.take j ++ List.replicate (l.length - j) (0 : Int)).map (Value.int .i64))[j]? = some (.int .i64 0) := by
  have ht : (l.take j).length = j := by simp; omega
  rw [List.getElem?_map, List.getElem?_append_right (by omega), ht, Nat.sub_self, List.getElem?_replicate, if_pos (by omega)]
  rfl
theorem set_copy (l : List Int) (m : Nat) (hm : m = l.length) (j : Nat) (hj : j < l.length) : ((l.take j ++ List.replicate (m - j) (0 : Int)).map (Value.int .i64)).set j (.int .i64 (l.getD j 0)) = (l.take (j + 1) ++ List.replicate (m - (j + 1)) (0 : Int)).map (Value.int .i64) := by
  subst hm
  have ht : (l.take j).length = j := by simp; omega
  rw [← List.map_set]
  congr 1
  rw [List.set_append_right _ _ (by rw [ht]; exact Nat.le_refl _), ht, Nat.sub_self, List.take_succ_eq_append_getElem hj]
  rw [show l.length - j = (l.length - (j + 1)) + 1 by omega, List.replicate_succ, List.set_cons_zero, List.append_assoc]
  simp [List.getD, List.getElem?_eq_getElem hj]
end
section
open Go.RowKit

/-- A call that makes a list of its own, and says whether there is one. -/
def MakesB (w : World) (l : List Int) (ok : Bool) (e : Ending) (w' : World) : Prop := ∃ v, e = .returned (.tuple #[v, .bool ok]) ∧ Own w' w.heap.size v l ∧ Below w.heap.size w w'
theorem gjoin {W w w1 : World} {row : Option Nat} (h : Below W.heap.size W w) (hg : w.grownBy w1 row) (hr : ∀ k, row = some k → W.heap.size ≤ k) : Below W.heap.size W w1 := h.grown hg h.size hr
/-- A row made above the size S is not among those of an older value. -/
theorem apart {w : World} {B B' : Nat} {v u : Value} {l m : List Int} {w' : World} (hv : Own w B v l) (hu : Own w' B' u m) (hB : w.heap.size ≤ B') : ∀ k, v.ownBlock = some k → u.ownBlock ≠ some k := by
  intro k hk hk'
  have := (hv.lt k hk).2
  have := (hu.lt k hk').1
  omega

theorem apart' {w : World} {B B' : Nat} {v u : Value} {l m : List Int} {w' : World} (hv : Own w B v l) (hu : Own w' B' u m) (hB : w.heap.size ≤ B') : ∀ k, u.ownBlock = some k → v.ownBlock ≠ some k := by
  intro k hk hk'
  have := (hv.lt k hk').2
  have := (hu.lt k hk).1
  omega

end
section
open Go.RowKit

theorem Own.alloc' {w : World} {B : Nat} {v : Value} {l : List Int} (h : Own w B v l) (o : Obj) : Own (w.alloc o) B v l := World.ownsRow.alloc h o
theorem cell_new0 (w : World) (x y : Value) (T : TypeId) : (w.alloc (.cells #[x, y] T)).cell? ⟨w.heap.size, 0, none⟩ = some x := by rw [World.cell?_alloc_new]; rfl
theorem cell_new1 (w : World) (x y : Value) (T : TypeId) : (w.alloc (.cells #[x, y] T)).cell? ⟨w.heap.size, 1, none⟩ = some y := by rw [World.cell?_alloc_new]; rfl
end
section
open Go.RowKit

theorem rowBelow {w w' : World} {B : Nat} {E : TypeId} {z : Nat} {v : Value} {n : Nat} {xs : List Value} (h : w.ownsRow B E z v n xs) (hb : Below w.heap.size w w') : w'.ownsRow B E z v n xs := by
  refine ⟨h.1, ?_⟩
  rcases h.2 with hn | ⟨g, cap, cur, hv, hg, hh, rest⟩
  · exact .inl hn
  · exact .inr ⟨g, cap, cur, hv, hg, (hb.block g (Array.getElem?_eq_some_iff.1 hh).1).trans hh, rest⟩
theorem rowMono {w : World} {B B' : Nat} {E : TypeId} {z : Nat} {v : Value} {n : Nat} {xs : List Value} (h : w.ownsRow B E z v n xs) (hB : B' ≤ B) : w.ownsRow B' E z v n xs := by
  refine ⟨h.1, ?_⟩
  rcases h.2 with hn | ⟨g, cap, cur, hv, hg, rest⟩
  · exact .inl hn
  · exact .inr ⟨g, cap, cur, hv, Nat.le_trans hB hg, rest⟩
end
section
open Go.RowKit

/-- A call that turns nothing. -/
def Pure (w : World) (v : Value) (e : Ending) (w' : World) : Prop := e = .returned v ∧ w = w'
def inB (n lo hi : Int) : Bool := decide (lo ≤ n) && decide (n ≤ hi)
def allIn (l : List Int) (lo hi : Int) : Bool := l.all (fun n => inB n lo hi)
def isSeq (l : List Int) : Bool := decide (l.length ≤ 32) && allIn l 0 3

theorem allIn_take_succ (l : List Int) (lo hi : Int) (k : Nat) (h : k < l.length) (h1 : allIn (l.take k) lo hi = true) (h2 : inB (l.getD k 0) lo hi = true) : allIn (l.take (k + 1)) lo hi = true := by
  unfold allIn at *
  rw [List.take_succ_eq_append_getElem h, List.all_append, h1]
  simpa [List.getD, h] using h2
theorem allIn_false (l : List Int) (lo hi : Int) (k : Nat) (h : k < l.length) (h2 : inB (l.getD k 0) lo hi = false) : allIn l lo hi = false := by
  unfold allIn
  rw [List.all_eq_false]
  exact ⟨l[k], List.getElem_mem h, by simpa [List.getD, h] using h2⟩
theorem allIn_mem {l : List Int} {lo hi : Int} (h : allIn l lo hi = true) : ∀ z ∈ l, lo ≤ z ∧ z ≤ hi := by
  intro z hz
  have := List.all_eq_true.1 h z hz
  simpa [inB] using this
theorem allIn_getD {l : List Int} {lo hi : Int} (h : allIn l lo hi = true) (k : Nat) (hk : k < l.length) : lo ≤ l.getD k 0 ∧ l.getD k 0 ≤ hi := by
  have := allIn_mem h l[k] (List.getElem_mem hk)
  simpa [List.getD, hk] using this
theorem isSeq_len {l : List Int} (h : isSeq l = true) : l.length ≤ 32 := by simp [isSeq] at h; exact h.1
theorem isSeq_all {l : List Int} (h : isSeq l = true) : allIn l 0 3 = true := by simp [isSeq] at h; exact h.2
theorem isSeq_of {l : List Int} (h1 : l.length ≤ 32) (h2 : allIn l 0 3 = true) : isSeq l = true := by simp [isSeq, h1, h2]

set_option maxHeartbeats 400000 in
theorem l1In_any (n lo hi : Int) (w : World) : Calls Tryd.prog 34 #[.int .i64 n, .int .i64 lo, .int .i64 hi] w (Pure w (.bool (inB n lo hi))) := by
  go_enter Tryd.func34, Tryd.ntmps34
  go_wp2
  all_goals
    go_ret
    exact ⟨ret_bool (by simp only [inB]; simp; omega), rfl⟩

/-! ### the program's IsSequence -/
end
section
open Go.RowKit

/-- Both are sequences, of one length. -/
def bothB (l m : List Int) : Bool := isSeq l && isSeq m && decide (l.length = m.length)
end
end Go.Proofs.YtgjdaeaiheibbabDoor
