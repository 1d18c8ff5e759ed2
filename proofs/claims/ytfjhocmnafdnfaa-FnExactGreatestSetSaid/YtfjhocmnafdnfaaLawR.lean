/- The closing kit of the laws of lists of lists: how a slice of slices of whole numbers comes in. -/
import Derived.Test.YtfjhocmnafdnfaaLaw
import Derived.Test.YtfjhocmnafdnfaaRw
import Derived.Deep.Matrix
namespace Go.Proofs.Ytfjhocmnafdnfaa
set_option maxRecDepth 100000
open Go.ChangeShapes Go.WideShapes Go.ChangeAt Go.RowKit Go.Joins

theorem spot_none {w : World} {a : Addr} {v : Value} (c0 : w.cell? (a.add 0) = some v) : a.spot = none := by
  unfold Addr.add at c0
  simp only [if_true] at c0
  unfold World.cell? at c0
  split at c0
  · split at c0
    · cases c0
    · rename_i hh; simpa using hh
  · cases c0
/-- A row of which only the first numbers are looked at. -/
theorem row_IS {W : World} {A : Option Addr} {L C : Nat} {Z : List Int} (hLC : L ≤ C) (hC : C ≤ maxLen) (hZ : Z.length = C) (hn : A = none → C = 0)
    (hcell : ∀ a', A = some a' → ∀ c, c < C → W.cell? (a'.add c) = some (.int .i64 (Z.getD c 0))) : IS W (.slice A L C) (Z.take L) := by
  have hlr : (Z.take L).length = L := by simp; omega
  by_cases h0 : L = 0
  · subst h0; exact Or.inl ⟨by simp, _, _, rfl⟩
  · cases A with
    | none => have := hn rfl; omega
    | some a =>
      have hc := hcell a rfl
      have hsp := spot_none (hc 0 (by omega))
      obtain ⟨b, off, spot⟩ := a
      simp only at hsp
      subst hsp
      refine Or.inr ⟨fun e => h0 (by rw [← hlr, e]; rfl), b, off, C, by rw [hlr], by omega, fun i hi => ?_⟩
      rw [hlr] at hi
      have ci := hc i (by omega)
      rw [Addr.add_lit] at ci
      rw [ci]
      simp [List.getD, hi]
section
variable {H : Type} {enc : TypeId × Value → H}
/-- A slice of slices of whole numbers that came in. -/
theorem open_IR {P : Program} {W : World} {t e q : TypeId} {r : Reach} {base : Nat} {v : Value} {d : DataW H} {p : List MemPlace} (ht : P.underlying t = some (.slice e)) (he : P.underlying e = some (.slice q)) (hq : P.underlying q = some (.int .i64))
    (ce : P.cellsOf e = 1) (cq : P.cellsOf q = 1) (hv : Value.okWide P W r base t v) (h : DataW.Trod enc P W 0 (fun _ => true) true t v d p) :
    ∃ (a : Option Addr) (cap : Nat) (ll : List (List Int)), v = .slice a ll.length cap ∧ IR W v ll := by
  obtain ⟨a0, len, cap, rfl⟩ := okWide_slice ht hv
  obtain ⟨fuel, hf⟩ := h
  rcases Go.Deep.open_int_rows ht he hq ce cq hf with ⟨hcs, hx⟩ | ⟨a, len', cap', A, L, C, Z, hcs, _, hl, hm, hx, hrow⟩
  · simp [Value.cells] at hcs
    obtain ⟨rfl, rfl, rfl⟩ := hcs
    exact ⟨none, 0, [], rfl, Or.inl ⟨rfl, _, _, rfl⟩⟩
  · simp [Value.cells] at hcs
    obtain ⟨rfl, rfl, rfl⟩ := hcs
    have hlen : ((List.range len).map fun r => (Z r).take (L r)).length = len := by simp
    refine ⟨some a, cap, (List.range len).map fun r => (Z r).take (L r), by rw [hlen], ?_⟩
    by_cases h0 : len = 0
    · subst h0; exact Or.inl ⟨by simp, _, _, rfl⟩
    · refine Or.inr ⟨fun e => h0 (by rw [← hlen, e]; rfl), ?_⟩
      have hsp := spot_none (hrow 0 (by omega)).1
      obtain ⟨b, off, spot⟩ := a
      simp only at hsp
      subst hsp
      refine ⟨b, off, cap, by rw [hlen], by omega, fun i hi => ?_⟩
      rw [hlen] at hi
      obtain ⟨h1, h2, h3, h4, -, h6, h7⟩ := hrow i (by omega)
      rw [Addr.add_lit] at h1
      refine ⟨_, h1, ?_⟩
      have := row_IS h2 h3 h4 h6 (fun a' ha' c hc => (h7 a' ha').2 c hc)
      simpa [List.getD, hi] using this
end
theorem cellsS : Try.prog.cellsOf 24 = 1 := by kernel_rfl
end Go.Proofs.Ytfjhocmnafdnfaa
