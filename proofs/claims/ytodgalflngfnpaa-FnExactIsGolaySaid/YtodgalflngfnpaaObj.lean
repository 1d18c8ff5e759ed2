/- Objects of a call's own, each with the set of blocks in which it lies: lists of whole numbers, lists of Gaussian numbers. -/
import Derived.Test.YtodgalflngfnpaaLawKit
import Derived.Test.YtodgalflngfnpaaGs
namespace Go.Proofs.Ytodgalflngfnpaa
set_option maxRecDepth 100000
open Go.RowKit

/-- A step that writes into the blocks of a set alone, of those that were there. -/
structure Touch (w w' : World) (S : Nat → Prop) : Prop where
  os : w'.os = w.os
  tape : w'.tape = w.tape
  output : w'.output = w.output
  size : w.heap.size ≤ w'.heap.size
  block : ∀ k, k < w.heap.size → ¬ S k → w'.heap[k]? = w.heap[k]?
theorem Touch.of {w w' : World} {row : Option Nat} (h : w.grownBy w' row) : Touch w w' (fun k => row = some k) :=
  ⟨h.os, h.tape, h.output, h.size, fun k hk hn => h.block k hk (fun e => hn e.symm)⟩
theorem Touch.trans {w w1 w2 : World} {S : Nat → Prop} (h : Touch w w1 S) (h' : Touch w1 w2 S) : Touch w w2 S :=
  ⟨h'.os.trans h.os, h'.tape.trans h.tape, h'.output.trans h.output, Nat.le_trans h.size h'.size, fun k hk hn => (h'.block k (Nat.lt_of_lt_of_le hk h.size) hn).trans (h.block k hk hn)⟩
theorem Touch.mono {w w1 : World} {S S' : Nat → Prop} (h : Touch w w1 S) (hs : ∀ k, S k → S' k) : Touch w w1 S' :=
  ⟨h.os, h.tape, h.output, h.size, fun k hk hn => h.block k hk (fun e => hn (hs k e))⟩
theorem tjoin {W w w1 : World} {S : Nat → Prop} (h : Below W.heap.size W w) (ht : Touch w w1 S) (hS : ∀ k, S k → W.heap.size ≤ k) : Below W.heap.size W w1 :=
  h.trans ⟨ht.os, ht.tape, ht.output, ht.size, fun k hk => ht.block k (Nat.lt_of_lt_of_le hk h.size) (fun hs => by have := hS k hs; omega)⟩

/-- A call that makes two lists of its own, which share nothing, and says whether there are such. -/
def Makes2B (w : World) (l m : List Int) (ok : Bool) (e : Ending) (w' : World) : Prop :=
  ∃ v u, e = .returned (.tuple #[v, u, .bool ok]) ∧ Own w' w.heap.size v l ∧ Own w' w.heap.size u m ∧ (∀ k, v.ownBlock = some k → u.ownBlock ≠ some k) ∧ Below w.heap.size w w'

/-- A list of whole numbers in the blocks of S. -/
structure OS (w : World) (S : Nat → Prop) (v : Value) (l : List Int) : Prop where
  own : Own w 0 v l
  ins : ∀ k, v.ownBlock = some k → S k
  hi : ∀ k, S k → k < w.heap.size
theorem OS.of {w : World} {B : Nat} {v : Value} {l : List Int} (h : Own w B v l) : OS w (fun k => v.ownBlock = some k) v l :=
  ⟨h.mono (Nat.zero_le _), fun _ h => h, fun k hk => (h.lt k hk).2⟩
theorem OS.is {w : World} {S : Nat → Prop} {v : Value} {l : List Int} (h : OS w S v l) : IS w v l := h.own.is
theorem OS.below {w w' : World} {S : Nat → Prop} {v : Value} {l : List Int} (h : OS w S v l) (hb : Below w.heap.size w w') : OS w' S v l :=
  ⟨h.own.below hb, h.ins, fun k hk => Nat.lt_of_lt_of_le (h.hi k hk) hb.size⟩
theorem OS.alloc {w : World} {S : Nat → Prop} {v : Value} {l : List Int} (h : OS w S v l) (o : Obj) : OS (w.alloc o) S v l :=
  ⟨World.ownsRow.alloc h.own o, h.ins, fun k hk => by have := h.hi k hk; simp; omega⟩
theorem OS.touch {w w' : World} {S S' : Nat → Prop} {v : Value} {l : List Int} (h : OS w S v l) (ht : Touch w w' S') (hd : ∀ k, S k → ¬ S' k) : OS w' S v l := by
  refine ⟨⟨h.own.1, ?_⟩, h.ins, fun k hk => Nat.lt_of_lt_of_le (h.hi k hk) ht.size⟩
  have hins := h.ins
  rcases h.own.2 with hn | ⟨g, cap, cur, rfl, hg, hh, rest⟩
  · exact .inl hn
  · exact .inr ⟨g, cap, cur, rfl, hg, (ht.block g (Array.getElem?_eq_some_iff.1 hh).1 (hd g (hins g rfl))).trans hh, rest⟩
theorem OS.mark {w : World} {S : Nat → Prop} {v : Value} {l : List Int} (h : OS w S v l) (k : Int) (hk0 : 0 ≤ k) (hk : k + l.length ≤ 4611686018427387904) :
    Calls Try.prog 23 #[v, .int .i64 k] w (fun e w' => e = .returned (.int .i64 (k + l.length)) ∧ OS w' S v (marks k l.length) ∧ Touch w w' S) := by
  refine (markIntS_own 0 v l k w h.own hk0 hk).mono ?_
  rintro e w' ⟨rfl, ho, hg⟩
  exact ⟨rfl, ⟨ho, h.ins, fun k hk => Nat.lt_of_lt_of_le (h.hi k hk) hg.size⟩, (Touch.of hg).mono h.ins⟩
theorem OS.held {w : World} {S : Nat → Prop} {v : Value} {k : Int} {n : Nat} (h : OS w S v (marks k n)) (hk0 : 0 ≤ k) (hk : k + n ≤ 4611686018427387904) :
    Calls Try.prog 30 #[v, .int .i64 k] w (Ret w (.int .i64 (k + n))) := heldIntS_marks v k n w h.is hk0 hk
end Go.Proofs.Ytodgalflngfnpaa
