/- Slices of bytes; the cursor over one (what the draws take their numbers from). -/
import Derived.Test.YtgjdaeaiheibbaaKit
import Derived.Deep.AppendLies
namespace Go.Proofs.Ytgjdaeaiheibbaa
set_option maxRecDepth 100000
open Go.RowKit

/-- The value reads as the list of bytes l. -/
def BS (w : World) (v : Value) (l : List Int) : Prop :=
  (∀ z ∈ l, 0 ≤ z ∧ z ≤ 255) ∧ ((l = [] ∧ ∃ a cap, v = .slice a 0 cap) ∨
  (l ≠ [] ∧ ∃ b off cap, v = .slice (some ⟨b, off, none⟩) l.length cap ∧ l.length ≤ maxLen ∧ ∀ i, i < l.length → w.cell? ⟨b, off + i, none⟩ = some (.int .u8 (l.getD i 0))))
theorem BS.sl {w : World} {v : Value} {l : List Int} (h : BS w v l) : ∃ a cap, v = .slice a l.length cap := by
  rcases h.2 with ⟨rfl, a, cap, rfl⟩ | ⟨_, b, off, cap, rfl, _, _⟩
  · exact ⟨a, cap, rfl⟩
  · exact ⟨_, cap, rfl⟩
theorem BS.len {w : World} {v : Value} {l : List Int} (h : BS w v l) : l.length ≤ 9223372036854775807 := by
  rcases h.2 with ⟨rfl, _⟩ | ⟨_, b, off, cap, _, h1, _⟩
  · simp
  · have := maxLen_val; omega
theorem getD_mem {l : List Int} {i : Nat} (h : i < l.length) : l.getD i 0 ∈ l := by
  simp [List.getD, h]
theorem cell_grown {w w' : World} {row : Option Nat} {a : Addr} {v : Value} (h : w.cell? a = some v) (hg : w.grownBy w' row) (hl : a.block < w.heap.size) (hne : row ≠ some a.block) : w'.cell? a = some v :=
  (hg.cell_far a hl (fun e => hne e.symm)).trans h
theorem cell_lt {w : World} {a : Addr} {v : Value} (h : w.cell? a = some v) : a.block < w.heap.size := by
  apply Classical.byContradiction
  intro hn
  unfold World.cell? at h
  rw [Array.getElem?_eq_none (by omega)] at h
  cases h
theorem BS.grown {w w' : World} {v : Value} {l : List Int} {row : Option Nat} (h : BS w v l) (hg : w.grownBy w' row) (hne : l ≠ [] → ∀ k, v.ownBlock = some k → row ≠ some k) : BS w' v l := by
  refine ⟨h.1, ?_⟩
  rcases h.2 with h | ⟨hn, b, off, cap, rfl, hm, hc⟩
  · exact Or.inl h
  · exact Or.inr ⟨hn, b, off, cap, rfl, hm, fun i hi => cell_grown (hc i hi) hg (cell_lt (hc i hi)) (hne hn b rfl)⟩
theorem grown_of_below {w w' : World} (h : Below w.heap.size w w') (row : Option Nat) : w.grownBy w' row := ⟨h.os, h.tape, h.output, h.size, fun k hk _ => h.block k hk⟩

/-- The block g is a cursor over the bytes l, at most n bytes on. -/
structure Cu (g : Nat) (cv : Value) (l : List Int) (n : Nat) (w : World) : Prop where
  lt : g < w.heap.size
  c0 : w.cell? ⟨g, 0, none⟩ = some cv
  bs : BS w cv l
  ne : l ≠ [] → ∀ k, cv.ownBlock = some k → k < g
  c1 : ∃ a : Nat, a ≤ n ∧ w.cell? ⟨g, 1, none⟩ = some (.int .i64 a)
  c2 : ∃ s : Int, w.cell? ⟨g, 2, none⟩ = some (.int .u64 s)
  f1 : w.frozen? ⟨g, 1, none⟩ = false
  f2 : w.frozen? ⟨g, 2, none⟩ = false
theorem Cu.grown {g : Nat} {cv : Value} {l : List Int} {n : Nat} {w w' : World} {row : Option Nat} (h : Cu g cv l n w) (hg : w.grownBy w' row) (hr : ∀ k, row = some k → g < k) : Cu g cv l n w' := by
  have hr1 : row ≠ some g := fun e => Nat.lt_irrefl _ (hr g e)
  obtain ⟨a, ha, h1⟩ := h.c1
  obtain ⟨s, h2⟩ := h.c2
  exact ⟨Nat.lt_of_lt_of_le h.lt hg.size, cell_grown h.c0 hg h.lt hr1, h.bs.grown hg (fun hn k hk e => by have := hr k e; have := h.ne hn k hk; omega), h.ne, ⟨a, ha, cell_grown h1 hg h.lt hr1⟩, ⟨s, cell_grown h2 hg h.lt hr1⟩,
    (hg.frozen_far ⟨g, 1, none⟩ h.lt (fun e => hr1 e.symm)).trans h.f1, (hg.frozen_far ⟨g, 2, none⟩ h.lt (fun e => hr1 e.symm)).trans h.f2⟩
theorem Cu.below {g : Nat} {cv : Value} {l : List Int} {n : Nat} {w w' : World} (h : Cu g cv l n w) (hb : Below w.heap.size w w') : Cu g cv l n w' := h.grown (grown_of_below hb none) (fun k e => by cases e)
theorem Cu.more {g : Nat} {cv : Value} {l : List Int} {n m : Nat} {w : World} (h : Cu g cv l n w) (hm : n ≤ m) : Cu g cv l m w := by
  obtain ⟨a, ha, h1⟩ := h.c1
  exact ⟨h.lt, h.c0, h.bs, h.ne, ⟨a, by omega, h1⟩, h.c2, h.f1, h.f2⟩
theorem Cu.start {v : Value} {l : List Int} {w : World} (hv : BS w v l) (T : TypeId) : Cu w.heap.size v l 0 (w.alloc (.cells #[v, .int .i64 0, .int .u64 0] T)) := by
  refine ⟨by simp, by rw [World.cell?_alloc_new]; rfl, hv.grown (World.grownBy_alloc w _ none) (fun _ k _ e => by cases e), fun hn0 k hk => ?_, ⟨0, Nat.le_refl _, by rw [World.cell?_alloc_new]; rfl⟩, ⟨0, by rw [World.cell?_alloc_new]; rfl⟩, World.frozen?_alloc_new .., World.frozen?_alloc_new ..⟩
  rcases hv.2 with ⟨rfl, a, cap, rfl⟩ | ⟨hn, b, off, cap, rfl, hm, hc⟩
  · exact (hn0 rfl).elim
  · cases hk; exact cell_lt (hc 0 (by cases l <;> simp_all))
/-- A method of the cursor: its value, with what is known of it; the cursor k bytes on. -/
def Dr (g : Nat) (cv : Value) (l : List Int) (n : Nat) (w : World) (R : Value → World → Prop) (e : Ending) (w' : World) : Prop := ∃ v, e = .returned v ∧ R v w' ∧ Cu g cv l n w' ∧ w.grownBy w' (some g)
/-- A draw: its value, with what is known of it. -/
def Dw (w : World) (R : Value → World → Prop) (e : Ending) (w' : World) : Prop := ∃ v, e = .returned v ∧ R v w' ∧ Below w.heap.size w w'
end Go.Proofs.Ytgjdaeaiheibbaa
