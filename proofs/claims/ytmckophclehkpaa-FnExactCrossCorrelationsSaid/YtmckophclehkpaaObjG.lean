/- Lists of Gaussian numbers as objects of a call's own. -/
import Derived.Test.YtmckophclehkpaaObj
import Derived.Test.YtmckophclehkpaaGsL
namespace Go.Proofs.Ytmckophclehkpaa
open Go.RowKit

structure OG (w : World) (S : Nat → Prop) (v : Value) (l : List (Int × Int)) : Prop where
  own : OwnG w 0 v l
  ins : ∀ k, v.ownBlock = some k → S k
  hi : ∀ k, S k → k < w.heap.size
theorem OG.of {w : World} {B : Nat} {v : Value} {l : List (Int × Int)} (h : OwnG w B v l) : OG w (fun k => v.ownBlock = some k) v l :=
  ⟨h.mono (Nat.zero_le _), fun _ h => h, fun k hk => (h.lt k hk).2⟩
theorem OG.is {w : World} {S : Nat → Prop} {v : Value} {l : List (Int × Int)} (h : OG w S v l) : IG w v l := h.own.is
theorem OG.below {w w' : World} {S : Nat → Prop} {v : Value} {l : List (Int × Int)} (h : OG w S v l) (hb : Below w.heap.size w w') : OG w' S v l :=
  ⟨h.own.below hb, h.ins, fun k hk => Nat.lt_of_lt_of_le (h.hi k hk) hb.size⟩
theorem OG.alloc {w : World} {S : Nat → Prop} {v : Value} {l : List (Int × Int)} (h : OG w S v l) (o : Obj) : OG (w.alloc o) S v l :=
  ⟨World.ownsRow.alloc h.own o, h.ins, fun k hk => by have := h.hi k hk; simp; omega⟩
theorem OG.touch {w w' : World} {S S' : Nat → Prop} {v : Value} {l : List (Int × Int)} (h : OG w S v l) (ht : Touch w w' S') (hd : ∀ k, S k → ¬ S' k) : OG w' S v l := by
  refine ⟨⟨h.own.1, ?_⟩, h.ins, fun k hk => Nat.lt_of_lt_of_le (h.hi k hk) ht.size⟩
  have hins := h.ins
  rcases h.own.2 with hn | ⟨g, cap, cur, rfl, hg, hh, rest⟩
  · exact .inl hn
  · exact .inr ⟨g, cap, cur, rfl, hg, (ht.block g (Array.getElem?_eq_some_iff.1 hh).1 (hd g (hins g rfl))).trans hh, rest⟩
theorem OG.mark {w : World} {S : Nat → Prop} {v : Value} {l : List (Int × Int)} (h : OG w S v l) (k : Int) (hk0 : 0 ≤ k) (hk : k + 2 * (l.length : Int) ≤ 4611686018427387904) :
    Calls Try.prog 21 #[v, .int .i64 k] w (fun e w' => e = .returned (.int .i64 (k + 2 * (l.length : Int))) ∧ OG w' S v (marksG k l.length) ∧ Touch w w' S) := by
  refine (markGaussS_own 0 v l k w h.own hk0 hk).mono ?_
  rintro e w' ⟨rfl, ho, hg⟩
  exact ⟨rfl, ⟨ho, h.ins, fun k hk => Nat.lt_of_lt_of_le (h.hi k hk) hg.size⟩, (Touch.of hg).mono h.ins⟩
theorem OG.held {w : World} {S : Nat → Prop} {v : Value} {k : Int} {n : Nat} (h : OG w S v (marksG k n)) (hk0 : 0 ≤ k) (hk : k + 2 * (n : Int) ≤ 4611686018427387904) :
    Calls Try.prog 22 #[v, .int .i64 k] w (Ret w (.int .i64 (k + 2 * (n : Int)))) := heldGaussS_marks v k n w h.is hk0 hk
end Go.Proofs.Ytmckophclehkpaa
