/- Lists of Gaussian numbers: how they lie in memory; rows of the call's own; marks. laws.eqGauss at one number. Objects of a call's own, each with the set of blocks in which it lies: lists of whole numbers, lists of Gaussian numbers. The laws' helpers over lists of Gaussian numbers: eqGaussS, heldGaussS, markGaussS. Lists of Gaussian numbers as objects of a call's own. -/
import Derived.Deep.RegionHeld3
import Derived.Test.YtgjdaeaiheibbaaKit
namespace Go.Proofs.Ytgjdaeaiheibbaa
set_option maxRecDepth 100000
section
open Go.RowKit

/-- The cells of a list of Gaussian numbers. -/
def fl (l : List (Int × Int)) : List Value := l.flatMap fun p => [.int .i64 p.1, .int .i64 p.2]
def gre (l : List (Int × Int)) (i : Nat) : Int := (l.getD i (0, 0)).1
def gim (l : List (Int × Int)) (i : Nat) : Int := (l.getD i (0, 0)).2
theorem fl_nil : fl [] = [] := rfl
theorem fl_cons (p : Int × Int) (l : List (Int × Int)) : fl (p :: l) = .int .i64 p.1 :: .int .i64 p.2 :: fl l := rfl
theorem fl_append (l m : List (Int × Int)) : fl (l ++ m) = fl l ++ fl m := by simp [fl]
theorem fl_length (l : List (Int × Int)) : (fl l).length = l.length * 2 := by
  induction l with
  | nil => rfl
  | cons p t ih => rw [fl_cons, List.length_cons, List.length_cons, ih, List.length_cons]; omega
theorem fl_re (l : List (Int × Int)) (i : Nat) (h : i < l.length) : (fl l)[i * 2]? = some (.int .i64 (gre l i)) := by
  induction l generalizing i with
  | nil => simp at h
  | cons p t ih =>
    cases i with
    | zero => rfl
    | succ i =>
      rw [fl_cons, show (i + 1) * 2 = i * 2 + 1 + 1 by omega, List.getElem?_cons_succ, List.getElem?_cons_succ, ih i (by simpa using h)]
      rfl
theorem fl_im (l : List (Int × Int)) (i : Nat) (h : i < l.length) : (fl l)[i * 2 + 1]? = some (.int .i64 (gim l i)) := by
  induction l generalizing i with
  | nil => simp at h
  | cons p t ih =>
    cases i with
    | zero => rfl
    | succ i =>
      rw [fl_cons, show (i + 1) * 2 + 1 = i * 2 + 1 + 1 + 1 by omega, List.getElem?_cons_succ, List.getElem?_cons_succ, ih i (by simpa using h)]
      rfl
theorem fl_one (l : List (Int × Int)) : ∀ v ∈ fl l, v.oneCell' = true := by
  intro v hv
  simp only [fl, List.mem_flatMap] at hv
  obtain ⟨p, _, hv⟩ := hv
  simp at hv
  rcases hv with rfl | rfl <;> rfl
theorem fl_set_re (l : List (Int × Int)) (i : Nat) (h : i < l.length) (x : Int) : (fl l).set (i * 2) (.int .i64 x) = fl (l.set i (x, gim l i)) := by
  induction l generalizing i with
  | nil => simp at h
  | cons p t ih =>
    cases i with
    | zero => rfl
    | succ i =>
      rw [fl_cons, show (i + 1) * 2 = i * 2 + 1 + 1 by omega, List.set_cons_succ, List.set_cons_succ, ih i (by simpa using h)]
      rfl
theorem fl_set_im (l : List (Int × Int)) (i : Nat) (h : i < l.length) (x : Int) : (fl l).set (i * 2 + 1) (.int .i64 x) = fl (l.set i (gre l i, x)) := by
  induction l generalizing i with
  | nil => simp at h
  | cons p t ih =>
    cases i with
    | zero => rfl
    | succ i =>
      rw [fl_cons, show (i + 1) * 2 + 1 = i * 2 + 1 + 1 + 1 by omega, List.set_cons_succ, List.set_cons_succ, ih i (by simpa using h)]
      rfl
theorem gre_set (l : List (Int × Int)) (i : Nat) (h : i < l.length) (p : Int × Int) : gre (l.set i p) i = p.1 := by
  simp [gre, List.getD, h]
theorem gim_set (l : List (Int × Int)) (i : Nat) (h : i < l.length) (p : Int × Int) : gim (l.set i p) i = p.2 := by
  simp [gim, List.getD, h]
/-- Both parts set, one after the other. -/
theorem fl_set2 (l : List (Int × Int)) (i : Nat) (h : i < l.length) (x y : Int) : ((fl l).set (i * 2) (.int .i64 x)).set (i * 2 + 1) (.int .i64 y) = fl (l.set i (x, y)) := by
  rw [fl_set_re l i h, fl_set_im _ i (by simpa using h), gre_set l i h, List.set_set]

/-! ### lists made by their index -/
def genG (n : Nat) (X Y : Nat → Int) : List (Int × Int) := (List.range n).map fun i => (X i, Y i)
theorem genG_length (n : Nat) (X Y : Nat → Int) : (genG n X Y).length = n := by simp [genG]
theorem genG_succ (n : Nat) (X Y : Nat → Int) : genG (n + 1) X Y = genG n X Y ++ [(X n, Y n)] := by simp [genG, List.range_succ]
theorem genG_re (n : Nat) (X Y : Nat → Int) (i : Nat) (h : i < n) : gre (genG n X Y) i = X i := by simp [gre, genG, List.getD, h]
theorem genG_im (n : Nat) (X Y : Nat → Int) (i : Nat) (h : i < n) : gim (genG n X Y) i = Y i := by simp [gim, genG, List.getD, h]
theorem genG_self (l : List (Int × Int)) : genG l.length (gre l) (gim l) = l := by
  apply List.ext_getElem?
  intro i
  by_cases h : i < l.length
  · simp [genG, gre, gim, List.getD, h]
  · rw [List.getElem?_eq_none (by rw [genG_length]; omega), List.getElem?_eq_none (by omega)]
theorem genG_ext {n : Nat} {X Y X' Y' : Nat → Int} (e : ∀ i, i < n → X i = X' i) (e' : ∀ i, i < n → Y i = Y' i) : genG n X Y = genG n X' Y' := by
  unfold genG
  apply List.map_congr_left
  intro i hi
  rw [e i (List.mem_range.1 hi), e' i (List.mem_range.1 hi)]
def marksG (k : Int) (n : Nat) : List (Int × Int) := genG n (fun i => k + 2 * (i : Int)) (fun i => k + 2 * (i : Int) + 1)
theorem marksG_length (k : Int) (n : Nat) : (marksG k n).length = n := genG_length _ _ _
theorem marksG_succ (k : Int) (n : Nat) : marksG k (n + 1) = marksG k n ++ [(k + 2 * (n : Int), k + 2 * (n : Int) + 1)] := genG_succ _ _ _
theorem marksG_re (k : Int) (n i : Nat) (h : i < n) : gre (marksG k n) i = k + 2 * (i : Int) := genG_re _ _ _ _ h
theorem marksG_im (k : Int) (n i : Nat) (h : i < n) : gim (marksG k n) i = k + 2 * (i : Int) + 1 := genG_im _ _ _ _ h
theorem marksG_set (k : Int) (l : List (Int × Int)) (j : Nat) (h : j < l.length) : (marksG k j ++ l.drop j).set j (k + 2 * (j : Int), k + 2 * (j : Int) + 1) = marksG k (j + 1) ++ l.drop (j + 1) := by
  rw [List.set_append_right _ _ (by rw [marksG_length]; exact Nat.le_refl _), marksG_length, Nat.sub_self, marksG_succ, List.drop_eq_getElem_cons h, List.set_cons_zero, List.append_assoc]
  rfl
theorem marksG_len (k : Int) (l : List (Int × Int)) (j : Nat) (h : j ≤ l.length) : (marksG k j ++ l.drop j).length = l.length := by simp [marksG_length]; omega

/-! ### in memory -/
/-- A slice that reads as the list. -/
def IG (w : World) (v : Value) (l : List (Int × Int)) : Prop :=
  (l = [] ∧ ∃ a cap, v = .slice a 0 cap) ∨
  (l ≠ [] ∧ ∃ b off cap, v = .slice (some ⟨b, off, none⟩) l.length cap ∧ l.length ≤ maxLen ∧ ∀ i, i < l.length → w.cell? ⟨b, off + i * 2, none⟩ = some (.int .i64 (gre l i)) ∧ w.cell? ⟨b, off + i * 2 + 1, none⟩ = some (.int .i64 (gim l i)))
theorem IG.below {w w' : World} {v : Value} {l : List (Int × Int)} (h : IG w v l) (hb : Below w.heap.size w w') : IG w' v l := by
  rcases h with h | ⟨hn, b, off, cap, hv, hm, hc⟩
  · exact Or.inl h
  · exact Or.inr ⟨hn, b, off, cap, hv, hm, fun i hi => ⟨keepc hb (hc i hi).1, keepc hb (hc i hi).2⟩⟩
theorem IG.slice {w : World} {v : Value} {l : List (Int × Int)} (h : IG w v l) : ∃ a cap, v = .slice a l.length cap := by
  rcases h with ⟨rfl, a, cap, rfl⟩ | ⟨_, b, off, cap, rfl, _⟩ <;> exact ⟨_, _, rfl⟩
theorem IG.nil (w : World) : IG w (.slice none 0 0) [] := Or.inl ⟨rfl, none, 0, rfl⟩
end
section
open Go.RowKit

end
section
open Go.RowKit

/-- A step that writes into the blocks of a set alone, of those that were there. -/
structure Touch (w w' : World) (S : Nat → Prop) : Prop where
  os : w'.os = w.os
  tape : w'.tape = w.tape
  output : w'.output = w.output
  size : w.heap.size ≤ w'.heap.size
  block : ∀ k, k < w.heap.size → ¬ S k → w'.heap[k]? = w.heap[k]?
theorem Touch.of {w w' : World} {row : Option Nat} (h : w.grownBy w' row) : Touch w w' (fun k => row = some k) :=
  ⟨h.os, h.tape, h.output, h.size, fun k hk hn => h.block k hk (fun e => hn e.symm)⟩
theorem Touch.trans {w w1 w2 : World} {S : Nat → Prop} (h : Touch w w1 S) (h' : Touch w1 w2 S) : Touch w w2 S :=
  ⟨h'.os.trans h.os, h'.tape.trans h.tape, h'.output.trans h.output, Nat.le_trans h.size h'.size, fun k hk hn => (h'.block k (Nat.lt_of_lt_of_le hk h.size) hn).trans (h.block k hk hn)⟩
theorem Touch.mono {w w1 : World} {S S' : Nat → Prop} (h : Touch w w1 S) (hs : ∀ k, S k → S' k) : Touch w w1 S' :=
  ⟨h.os, h.tape, h.output, h.size, fun k hk hn => h.block k hk (fun e => hn (hs k e))⟩
theorem tjoin {W w w1 : World} {S : Nat → Prop} (h : Below W.heap.size W w) (ht : Touch w w1 S) (hS : ∀ k, S k → W.heap.size ≤ k) : Below W.heap.size W w1 :=
  h.trans ⟨ht.os, ht.tape, ht.output, ht.size, fun k hk => ht.block k (Nat.lt_of_lt_of_le hk h.size) (fun hs => by have := hS k hs; omega)⟩

/-- A call that makes two lists of its own, which share nothing, and says whether there are such. -/
def Makes2B (w : World) (l m : List Int) (ok : Bool) (e : Ending) (w' : World) : Prop :=
  ∃ v u, e = .returned (.tuple #[v, u, .bool ok]) ∧ Own w' w.heap.size v l ∧ Own w' w.heap.size u m ∧ (∀ k, v.ownBlock = some k → u.ownBlock ≠ some k) ∧ Below w.heap.size w w'

/-- A list of whole numbers in the blocks of S. -/
structure OS (w : World) (S : Nat → Prop) (v : Value) (l : List Int) : Prop where
  own : Own w 0 v l
  ins : ∀ k, v.ownBlock = some k → S k
  hi : ∀ k, S k → k < w.heap.size
theorem OS.of {w : World} {B : Nat} {v : Value} {l : List Int} (h : Own w B v l) : OS w (fun k => v.ownBlock = some k) v l :=
  ⟨h.mono (Nat.zero_le _), fun _ h => h, fun k hk => (h.lt k hk).2⟩
theorem OS.is {w : World} {S : Nat → Prop} {v : Value} {l : List Int} (h : OS w S v l) : IS w v l := h.own.is
theorem OS.below {w w' : World} {S : Nat → Prop} {v : Value} {l : List Int} (h : OS w S v l) (hb : Below w.heap.size w w') : OS w' S v l :=
  ⟨h.own.below hb, h.ins, fun k hk => Nat.lt_of_lt_of_le (h.hi k hk) hb.size⟩
theorem OS.alloc {w : World} {S : Nat → Prop} {v : Value} {l : List Int} (h : OS w S v l) (o : Obj) : OS (w.alloc o) S v l :=
  ⟨World.ownsRow.alloc h.own o, h.ins, fun k hk => by have := h.hi k hk; simp; omega⟩
theorem OS.touch {w w' : World} {S S' : Nat → Prop} {v : Value} {l : List Int} (h : OS w S v l) (ht : Touch w w' S') (hd : ∀ k, S k → ¬ S' k) : OS w' S v l := by
  refine ⟨⟨h.own.1, ?_⟩, h.ins, fun k hk => Nat.lt_of_lt_of_le (h.hi k hk) ht.size⟩
  have hins := h.ins
  rcases h.own.2 with hn | ⟨g, cap, cur, rfl, hg, hh, rest⟩
  · exact .inl hn
  · exact .inr ⟨g, cap, cur, rfl, hg, (ht.block g (Array.getElem?_eq_some_iff.1 hh).1 (hd g (hins g rfl))).trans hh, rest⟩
theorem OS.mark {w : World} {S : Nat → Prop} {v : Value} {l : List Int} (h : OS w S v l) (k : Int) (hk0 : 0 ≤ k) (hk : k + l.length ≤ 4611686018427387904) :
    Calls Try.prog 15 #[v, .int .i64 k] w (fun e w' => e = .returned (.int .i64 (k + l.length)) ∧ OS w' S v (marks k l.length) ∧ Touch w w' S) := by
  refine (markIntS_own 0 v l k w h.own hk0 hk).mono ?_
  rintro e w' ⟨rfl, ho, hg⟩
  exact ⟨rfl, ⟨ho, h.ins, fun k hk => Nat.lt_of_lt_of_le (h.hi k hk) hg.size⟩, (Touch.of hg).mono h.ins⟩
theorem OS.held {w : World} {S : Nat → Prop} {v : Value} {k : Int} {n : Nat} (h : OS w S v (marks k n)) (hk0 : 0 ≤ k) (hk : k + n ≤ 4611686018427387904) :
    Calls Try.prog 16 #[v, .int .i64 k] w (Ret w (.int .i64 (k + n))) := heldIntS_marks v k n w h.is hk0 hk
end
section
open Go.RowKit

end
section
open Go.RowKit

end
end Go.Proofs.Ytgjdaeaiheibbaa
