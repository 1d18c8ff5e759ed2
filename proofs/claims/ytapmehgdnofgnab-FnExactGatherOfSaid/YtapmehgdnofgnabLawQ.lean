/- The closing kit of the laws of lists of Gaussian numbers: how such a slice comes in. -/
import Derived.Test.YtapmehgdnofgnabLaw
import Derived.Test.YtapmehgdnofgnabGsn
import Derived.Deep.SlicePairs
namespace Go.Proofs.Ytapmehgdnofgnab
set_option maxRecDepth 100000
open Go.ChangeShapes Go.WideShapes Go.ChangeAt Go.RowKit Go.Joins

section
variable {H : Type} {enc : TypeId × Value → H}
/-- A slice of structs of two whole numbers that came in. -/
theorem open_IG {P : Program} {W : World} {t e : TypeId} {f0 f1 : Field} {r : Reach} {base : Nat} {v : Value} {d : DataW H} {p : List MemPlace} (ht : P.underlying t = some (.slice e)) (he : P.underlying e = some (.struct #[f0, f1])) (ce : P.cellsOf e = 2)
    (o0 : f0.offset = 0) (o1 : f1.offset = 1) (c0 : P.cellsOf f0.type = 1) (c1 : P.cellsOf f1.type = 1) (k0 : P.underlying f0.type = some (.int .i64)) (k1 : P.underlying f1.type = some (.int .i64))
    (hv : Value.okWide P W r base t v) (h : DataW.Trod enc P W 0 (fun _ => true) true t v d p) :
    ∃ (a : Option Addr) (cap : Nat) (l : List (Int × Int)), v = .slice a l.length cap ∧ IG W v l := by
  obtain ⟨a0, len, cap, rfl⟩ := okWide_slice ht hv
  obtain ⟨fuel, hf⟩ := h
  rcases Go.Deep.open_slice_pairs ht he ce o0 o1 c0 c1 hf with ⟨hcs, hx⟩ | ⟨a, len', cap', m, n, V0, V1, D0, D1, P0, P1, hcs, _, hl, hm, hmm, hx, hrow⟩
  · simp [Value.cells] at hcs
    obtain ⟨rfl, rfl, rfl⟩ := hcs
    exact ⟨none, 0, [], rfl, Or.inl ⟨rfl, _, _, rfl⟩⟩
  · simp [Value.cells] at hcs
    obtain ⟨rfl, rfl, rfl⟩ := hcs
    simp at hmm
    subst hmm
    have hlen : (genG len (fun i => intOf (V0 i)) (fun i => intOf (V1 i))).length = len := genG_length _ _ _
    refine ⟨some a, m, genG len (fun i => intOf (V0 i)) (fun i => intOf (V1 i)), by rw [hlen], ?_⟩
    by_cases h0 : len = 0
    · subst h0; exact Or.inl ⟨rfl, _, _, rfl⟩
    · refine Or.inr ⟨fun e => h0 (by rw [← hlen, e]; rfl), ?_⟩
      have c0' := (hrow 0 (by omega)).1
      have hsp : a.spot = none := by
        unfold Addr.add at c0'
        simp only [Nat.zero_mul, if_true] at c0'
        unfold World.cell? at c0'
        split at c0'
        · split at c0'
          · cases c0'
          · rename_i hh; simpa using hh
        · cases c0'
      obtain ⟨b, off, spot⟩ := a
      simp only at hsp
      subst hsp
      refine ⟨b, off, m, by rw [hlen], by omega, fun i hi => ?_⟩
      rw [hlen] at hi
      obtain ⟨h1, h2, h3, h4⟩ := hrow i (by omega)
      rw [Addr.add_lit] at h1 h2
      obtain ⟨x, ex, -, -⟩ := DataW.trod_int k0 h3
      obtain ⟨y, ey, -, -⟩ := DataW.trod_int k1 h4
      simp only [List.cons.injEq, and_true] at ex ey
      rw [genG_re _ _ _ i hi, genG_im _ _ _ i hi, h1, show off + i * 2 + 1 = off + (i * 2 + 1) from Nat.add_assoc _ _ _, h2, ex, ey]
      exact ⟨rfl, rfl⟩
end
theorem cellsGl : Try.prog.cellsOf 44 = 2 := by kernel_rfl
theorem cellsQI : Try.prog.cellsOf 3 = 1 := by kernel_rfl
end Go.Proofs.Ytapmehgdnofgnab
