/- Lists of Gaussian numbers: how they lie in memory; rows of the call's own; marks. laws.eqGauss at one number. Objects of a call's own, each with the set of blocks in which it lies: lists of whole numbers, lists of Gaussian numbers. The laws' helpers over lists of Gaussian numbers: eqGaussS, heldGaussS, markGaussS. Lists of Gaussian numbers as objects of a call's own. -/
import Derived.Deep.RegionHeld3
import Derived.Test.YtgjdaeaiheibbabDoorKit
namespace Go.Proofs.YtgjdaeaiheibbabDoor
set_option maxRecDepth 100000
section
open Go.RowKit

/-- The cells of a list of Gaussian numbers. -/
def fl (l : List (Int × Int)) : List Value := l.flatMap fun p => [.int .i64 p.1, .int .i64 p.2]
def gre (l : List (Int × Int)) (i : Nat) : Int := (l.getD i (0, 0)).1
def gim (l : List (Int × Int)) (i : Nat) : Int := (l.getD i (0, 0)).2
theorem fl_nil : fl [] = [] := rfl
theorem fl_cons (p : Int × Int) (l : List (Int × Int)) : fl (p :: l) = .int .i64 p.1 :: .int .i64 p.2 :: fl l := rfl
theorem fl_append (l m : List (Int × Int)) : fl (l ++ m) = fl l ++ fl m := by simp [fl]
theorem fl_length (l : List (Int × Int)) : (fl l).length = l.length * 2 := by
  induction l with
  | nil => rfl
  | cons p t ih => rw [fl_cons, List.length_cons, List.length_cons, ih, List.length_cons]; omega
theorem fl_re (l : List (Int × Int)) (i : Nat) (h : i < l.length) : (fl l)[i * 2]? = some (.int .i64 (gre l i)) := by
  induction l generalizing i with
  | nil => simp at h
  | cons p t ih =>
    cases i with
    | zero => rfl
    | succ i =>
      rw [fl_cons, show (i + 1) * 2 = i * 2 + 1 + 1 by omega, List.getElem?_cons_succ, List.getElem?_cons_succ, ih i (by simpa using h)]
      rfl
theorem fl_im (l : List (Int × Int)) (i : Nat) (h : i < l.length) : (fl l)[i * 2 + 1]? = some (.int .i64 (gim l i)) := by
  induction l generalizing i with
  | nil => simp at h
  | cons p t ih =>
    cases i with
    | zero => rfl
    | succ i =>
      rw [fl_cons, show (i + 1) * 2 + 1 = i * 2 + 1 + 1 + 1 by omega, List.getElem?_cons_succ, List.getElem?_cons_succ, ih i (by simpa using h)]
      rfl
theorem fl_one (l : List (Int × Int)) : ∀ v ∈ fl l, v.oneCell' = true := by
  intro v hv
  simp only [fl, List.mem_flatMap] at hv
  obtain ⟨p, _, hv⟩ := hv
  simp at hv
  rcases hv with rfl | rfl <;> rfl
theorem fl_set_re (l : List (Int × Int)) (i : Nat) (h : i < l.length) (x : Int) : (fl l).set (i * 2) (.int .i64 x) = fl (l.set i (x, gim l i)) := by
  induction l generalizing i with
  | nil => simp at h
  | cons p t ih =>
    cases i with
    | zero => rfl
    | succ i =>
      rw [fl_cons, show (i + 1) * 2 = i * 2 + 1 + 1 by omega, List.set_cons_succ, List.set_cons_succ, ih i (by simpa using h)]
      rfl
theorem fl_set_im (l : List (Int × Int)) (i : Nat) (h : i < l.length) (x : Int) : (fl l).set (i * 2 + 1) (.int .i64 x) = fl (l.set i (gre l i, x)) := by
  induction l generalizing i with
  | nil => simp at h
  | cons p t ih =>
    cases i with
    | zero => rfl
    | succ i =>
      rw [fl_cons, show (i + 1) * 2 + 1 = i * 2 + 1 + 1 + 1 by omega, List.set_cons_succ, List.set_cons_succ, ih i (by simpa using h)]
      rfl
theorem gre_set (l : List (Int × Int)) (i : Nat) (h : i < l.length) (p : Int × Int) : gre (l.set i p) i = p.1 := by
  simp [gre, List.getD, h]
theorem gim_set (l : List (Int × Int)) (i : Nat) (h : i < l.length) (p : Int × Int) : gim (l.set i p) i = p.2 := by
  simp [gim, List.getD, h]
/-- Both parts set, one after the other. -/
theorem fl_set2 (l : List (Int × Int)) (i : Nat) (h : i < l.length) (x y : Int) : ((fl l).set (i * 2) (.int .i64 x)).set (i * 2 + 1) (.int .i64 y) = fl (l.set i (x, y)) := by
  rw [fl_set_re l i h, fl_set_im _ i (by simpa using h), gre_set l i h, List.set_set]

/-! ### lists made by their index -/
def genG (n : Nat) (X Y : Nat → Int) : List (Int × Int) := (List.range n).map fun i => (X i, Y i)
theorem genG_length (n : Nat) (X Y : Nat → Int) : (genG n X Y).length = n := by simp [genG]
theorem genG_succ (n : Nat) (X Y : Nat → Int) : genG (n + 1) X Y = genG n X Y ++ [(X n, Y n)] := by simp [genG, List.range_succ]
theorem genG_re (n : Nat) (X Y : Nat → Int) (i : Nat) (h : i < n) : gre (genG n X Y) i = X i := by simp [gre, genG, List.getD, h]
theorem genG_im (n : Nat) (X Y : Nat → Int) (i : Nat) (h : i < n) : gim (genG n X Y) i = Y i := by simp [gim, genG, List.getD, h]
theorem genG_self (l : List (Int × Int)) : genG l.length (gre l) (gim l) = l := by
  apply List.ext_getElem?
  intro i
  by_cases h : i < l.length
  · simp [genG, gre, gim, List.getD, h]
  · rw [List.getElem?_eq_none (by rw [genG_length]; omega), List.getElem?_eq_none (by omega)]
theorem genG_ext {n : Nat} {X Y X' Y' : Nat → Int} (e : ∀ i, i < n → X i = X' i) (e' : ∀ i, i < n → Y i = Y' i) : genG n X Y = genG n X' Y' := by
  unfold genG
  apply List.map_congr_left
  intro i hi
  rw [e i (List.mem_range.1 hi), e' i (List.mem_range.1 hi)]
def marksG (k : Int) (n : Nat) : List (Int × Int) := genG n (fun i => k + 2 * (i : Int)) (fun i => k + 2 * (i : Int) + 1)
theorem marksG_length (k : Int) (n : Nat) : (marksG k n).length = n := genG_length _ _ _
theorem marksG_succ (k : Int) (n : Nat) : marksG k (n + 1) = marksG k n ++ [(k + 2 * (n : Int), k + 2 * (n : Int) + 1)] := genG_succ _ _ _
theorem marksG_re (k : Int) (n i : Nat) (h : i < n) : gre (marksG k n) i = k + 2 * (i : Int) := genG_re _ _ _ _ h
theorem marksG_im (k : Int) (n i : Nat) (h : i < n) : gim (marksG k n) i = k + 2 * (i : Int) + 1 := genG_im _ _ _ _ h
theorem marksG_set (k : Int) (l : List (Int × Int)) (j : Nat) (h : j < l.length) : (marksG k j ++ l.drop j).set j (k + 2 * (j : Int), k + 2 * (j : Int) + 1) = marksG k (j + 1) ++ l.drop (j + 1) := by
  rw [List.set_append_right _ _ (by rw [marksG_length]; exact Nat.le_refl _), marksG_length, Nat.sub_self, marksG_succ, List.drop_eq_getElem_cons h, List.set_cons_zero, List.append_assoc]
  rfl
theorem marksG_len (k : Int) (l : List (Int × Int)) (j : Nat) (h : j ≤ l.length) : (marksG k j ++ l.drop j).length = l.length := by simp [marksG_length]; omega

/-! ### in memory -/
def OwnG (w : World) (B : Nat) (v : Value) (l : List (Int × Int)) : Prop := w.ownsRow B 25 2 v l.length (fl l)
/-- A slice that reads as the list. -/
def IG (w : World) (v : Value) (l : List (Int × Int)) : Prop :=
  (l = [] ∧ ∃ a cap, v = .slice a 0 cap) ∨
  (l ≠ [] ∧ ∃ b off cap, v = .slice (some ⟨b, off, none⟩) l.length cap ∧ l.length ≤ maxLen ∧ ∀ i, i < l.length → w.cell? ⟨b, off + i * 2, none⟩ = some (.int .i64 (gre l i)) ∧ w.cell? ⟨b, off + i * 2 + 1, none⟩ = some (.int .i64 (gim l i)))
theorem OwnG.len {w : World} {B : Nat} {v : Value} {l : List (Int × Int)} (h : OwnG w B v l) : l.length ≤ maxLen := by
  rcases h.2 with ⟨_, h0⟩ | ⟨g, cap, cur, hv, hg, hh, hn, hcap, _⟩
  · rw [h0]; exact Nat.zero_le _
  · omega
theorem OwnG.is {w : World} {B : Nat} {v : Value} {l : List (Int × Int)} (h : OwnG w B v l) : IG w v l := by
  have hlen := h.len
  have h' := h
  rcases h.2 with ⟨rfl, h0⟩ | ⟨g, cap, cur, rfl, hg, hh, hn, hcap, hsz, htake⟩
  · exact Or.inl ⟨List.length_eq_zero_iff.1 h0, none, 0, rfl⟩
  · by_cases hl : l = []
    · subst hl; exact Or.inl ⟨rfl, _, _, rfl⟩
    · have h2 : w.ownsRow B 25 2 (.slice (some ⟨g, 0, none⟩) l.length cap) l.length (fl l) := h'
      refine Or.inr ⟨hl, g, 0, cap, rfl, hlen, fun i hi => ?_⟩
      rw [Nat.zero_add, h2.cellAt (i * 2) (by omega), h2.cellAt (i * 2 + 1) (by omega), fl_re l i hi, fl_im l i hi]
      exact ⟨rfl, rfl⟩
theorem IG.below {w w' : World} {v : Value} {l : List (Int × Int)} (h : IG w v l) (hb : Below w.heap.size w w') : IG w' v l := by
  rcases h with h | ⟨hn, b, off, cap, hv, hm, hc⟩
  · exact Or.inl h
  · exact Or.inr ⟨hn, b, off, cap, hv, hm, fun i hi => ⟨keepc hb (hc i hi).1, keepc hb (hc i hi).2⟩⟩
theorem IG.slice {w : World} {v : Value} {l : List (Int × Int)} (h : IG w v l) : ∃ a cap, v = .slice a l.length cap := by
  rcases h with ⟨rfl, a, cap, rfl⟩ | ⟨_, b, off, cap, rfl, _⟩ <;> exact ⟨_, _, rfl⟩
theorem IG.nil (w : World) : IG w (.slice none 0 0) [] := Or.inl ⟨rfl, none, 0, rfl⟩
theorem OwnG.nil (w : World) (B : Nat) : OwnG w B (.slice none 0 0) [] := World.ownsRow_nil _ _ _ _
theorem OwnG.lt {w : World} {B : Nat} {v : Value} {l : List (Int × Int)} (h : OwnG w B v l) : ∀ k, v.ownBlock = some k → B ≤ k ∧ k < w.heap.size := World.ownsRow.lt h
theorem OwnG.below {w w' : World} {B : Nat} {v : Value} {l : List (Int × Int)} (h : OwnG w B v l) (hb : Below w.heap.size w w') : OwnG w' B v l := rowBelow h hb
theorem OwnG.mono {w : World} {B B' : Nat} {v : Value} {l : List (Int × Int)} (h : OwnG w B v l) (hB : B' ≤ B) : OwnG w B' v l := rowMono h hB
theorem OwnG.alloc {w : World} {B : Nat} {v : Value} {l : List (Int × Int)} (h : OwnG w B v l) (o : Obj) : OwnG (w.alloc o) B v l := World.ownsRow.alloc h o
theorem OwnG.grown {w w' : World} {B : Nat} {v : Value} {l : List (Int × Int)} {row : Option Nat} (h : OwnG w B v l) (hg : w.grownBy w' row) (hne : ∀ k, v.ownBlock = some k → row ≠ some k) : OwnG w' B v l :=
  World.ownsRow.kept h hg (by cases hv : v.ownBlock with | none => exact Or.inl rfl | some k => exact Or.inr (fun e => hne k hv e.symm))
theorem OwnG.cases {w : World} {B : Nat} {v : Value} {l : List (Int × Int)} (h : OwnG w B v l) : (l = [] ∧ v = .slice none 0 0) ∨ ∃ g cap, v = .slice (some ⟨g, 0, none⟩) l.length cap ∧ B ≤ g ∧ g < w.heap.size := by
  rcases h.2 with ⟨rfl, h0⟩ | ⟨g, cap, cur, rfl, hg, hh, rest⟩
  · exact Or.inl ⟨List.length_eq_zero_iff.1 h0, rfl⟩
  · exact Or.inr ⟨g, cap, rfl, hg, (Array.getElem?_eq_some_iff.1 hh).1⟩
/-- A call that makes a list of Gaussian numbers of its own. -/
def MakesG (w : World) (l : List (Int × Int)) (e : Ending) (w' : World) : Prop := ∃ v, e = .returned v ∧ OwnG w' w.heap.size v l ∧ Below w.heap.size w w'
def MakesGB (w : World) (l : List (Int × Int)) (ok : Bool) (e : Ending) (w' : World) : Prop := ∃ v, e = .returned (.tuple #[v, .bool ok]) ∧ OwnG w' w.heap.size v l ∧ Below w.heap.size w w'
/-- What marking leaves. -/
def MarkedG (w : World) (B : Nat) (v : Value) (k : Int) (n : Nat) (e : Ending) (w' : World) : Prop := e = .returned (.int .i64 (k + 2 * (n : Int))) ∧ OwnG w' B v (marksG k n) ∧ w.grownBy w' v.ownBlock
theorem infoG : (Tryd.prog.info? 25).map (fun i => (i.zero, i.size, i.bytes)) = some (some (.agg #[.int .i64 0, .int .i64 0]), 2, 16) := by kernel_rfl

end
section
open Go.RowKit

end
section
open Go.RowKit

/-- A step that writes into the blocks of a set alone, of those that were there. -/
structure Touch (w w' : World) (S : Nat → Prop) : Prop where
  os : w'.os = w.os
  tape : w'.tape = w.tape
  output : w'.output = w.output
  size : w.heap.size ≤ w'.heap.size
  block : ∀ k, k < w.heap.size → ¬ S k → w'.heap[k]? = w.heap[k]?
theorem Touch.of {w w' : World} {row : Option Nat} (h : w.grownBy w' row) : Touch w w' (fun k => row = some k) :=
  ⟨h.os, h.tape, h.output, h.size, fun k hk hn => h.block k hk (fun e => hn e.symm)⟩
theorem Touch.trans {w w1 w2 : World} {S : Nat → Prop} (h : Touch w w1 S) (h' : Touch w1 w2 S) : Touch w w2 S :=
  ⟨h'.os.trans h.os, h'.tape.trans h.tape, h'.output.trans h.output, Nat.le_trans h.size h'.size, fun k hk hn => (h'.block k (Nat.lt_of_lt_of_le hk h.size) hn).trans (h.block k hk hn)⟩
theorem Touch.mono {w w1 : World} {S S' : Nat → Prop} (h : Touch w w1 S) (hs : ∀ k, S k → S' k) : Touch w w1 S' :=
  ⟨h.os, h.tape, h.output, h.size, fun k hk hn => h.block k hk (fun e => hn (hs k e))⟩
theorem tjoin {W w w1 : World} {S : Nat → Prop} (h : Below W.heap.size W w) (ht : Touch w w1 S) (hS : ∀ k, S k → W.heap.size ≤ k) : Below W.heap.size W w1 :=
  h.trans ⟨ht.os, ht.tape, ht.output, ht.size, fun k hk => ht.block k (Nat.lt_of_lt_of_le hk h.size) (fun hs => by have := hS k hs; omega)⟩

/-- A call that makes two lists of its own, which share nothing, and says whether there are such. -/
def Makes2B (w : World) (l m : List Int) (ok : Bool) (e : Ending) (w' : World) : Prop :=
  ∃ v u, e = .returned (.tuple #[v, u, .bool ok]) ∧ Own w' w.heap.size v l ∧ Own w' w.heap.size u m ∧ (∀ k, v.ownBlock = some k → u.ownBlock ≠ some k) ∧ Below w.heap.size w w'

/-- A list of whole numbers in the blocks of S. -/
structure OS (w : World) (S : Nat → Prop) (v : Value) (l : List Int) : Prop where
  own : Own w 0 v l
  ins : ∀ k, v.ownBlock = some k → S k
  hi : ∀ k, S k → k < w.heap.size
theorem OS.of {w : World} {B : Nat} {v : Value} {l : List Int} (h : Own w B v l) : OS w (fun k => v.ownBlock = some k) v l :=
  ⟨h.mono (Nat.zero_le _), fun _ h => h, fun k hk => (h.lt k hk).2⟩
theorem OS.is {w : World} {S : Nat → Prop} {v : Value} {l : List Int} (h : OS w S v l) : IS w v l := h.own.is
theorem OS.below {w w' : World} {S : Nat → Prop} {v : Value} {l : List Int} (h : OS w S v l) (hb : Below w.heap.size w w') : OS w' S v l :=
  ⟨h.own.below hb, h.ins, fun k hk => Nat.lt_of_lt_of_le (h.hi k hk) hb.size⟩
theorem OS.alloc {w : World} {S : Nat → Prop} {v : Value} {l : List Int} (h : OS w S v l) (o : Obj) : OS (w.alloc o) S v l :=
  ⟨World.ownsRow.alloc h.own o, h.ins, fun k hk => by have := h.hi k hk; simp; omega⟩
theorem OS.touch {w w' : World} {S S' : Nat → Prop} {v : Value} {l : List Int} (h : OS w S v l) (ht : Touch w w' S') (hd : ∀ k, S k → ¬ S' k) : OS w' S v l := by
  refine ⟨⟨h.own.1, ?_⟩, h.ins, fun k hk => Nat.lt_of_lt_of_le (h.hi k hk) ht.size⟩
  have hins := h.ins
  rcases h.own.2 with hn | ⟨g, cap, cur, rfl, hg, hh, rest⟩
  · exact .inl hn
  · exact .inr ⟨g, cap, cur, rfl, hg, (ht.block g (Array.getElem?_eq_some_iff.1 hh).1 (hd g (hins g rfl))).trans hh, rest⟩
end
section
open Go.RowKit

end
section
open Go.RowKit

structure OG (w : World) (S : Nat → Prop) (v : Value) (l : List (Int × Int)) : Prop where
  own : OwnG w 0 v l
  ins : ∀ k, v.ownBlock = some k → S k
  hi : ∀ k, S k → k < w.heap.size
theorem OG.of {w : World} {B : Nat} {v : Value} {l : List (Int × Int)} (h : OwnG w B v l) : OG w (fun k => v.ownBlock = some k) v l :=
  ⟨h.mono (Nat.zero_le _), fun _ h => h, fun k hk => (h.lt k hk).2⟩
theorem OG.is {w : World} {S : Nat → Prop} {v : Value} {l : List (Int × Int)} (h : OG w S v l) : IG w v l := h.own.is
theorem OG.below {w w' : World} {S : Nat → Prop} {v : Value} {l : List (Int × Int)} (h : OG w S v l) (hb : Below w.heap.size w w') : OG w' S v l :=
  ⟨h.own.below hb, h.ins, fun k hk => Nat.lt_of_lt_of_le (h.hi k hk) hb.size⟩
theorem OG.alloc {w : World} {S : Nat → Prop} {v : Value} {l : List (Int × Int)} (h : OG w S v l) (o : Obj) : OG (w.alloc o) S v l :=
  ⟨World.ownsRow.alloc h.own o, h.ins, fun k hk => by have := h.hi k hk; simp; omega⟩
theorem OG.touch {w w' : World} {S S' : Nat → Prop} {v : Value} {l : List (Int × Int)} (h : OG w S v l) (ht : Touch w w' S') (hd : ∀ k, S k → ¬ S' k) : OG w' S v l := by
  refine ⟨⟨h.own.1, ?_⟩, h.ins, fun k hk => Nat.lt_of_lt_of_le (h.hi k hk) ht.size⟩
  have hins := h.ins
  rcases h.own.2 with hn | ⟨g, cap, cur, rfl, hg, hh, rest⟩
  · exact .inl hn
  · exact .inr ⟨g, cap, cur, rfl, hg, (ht.block g (Array.getElem?_eq_some_iff.1 hh).1 (hd g (hins g rfl))).trans hh, rest⟩
end
end Go.Proofs.YtgjdaeaiheibbabDoor
