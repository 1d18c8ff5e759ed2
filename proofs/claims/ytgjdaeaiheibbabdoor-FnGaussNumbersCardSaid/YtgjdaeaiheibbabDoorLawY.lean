/- How a slice of bytes comes in. -/
import Derived.Test.YtgjdaeaiheibbabDoorLaw
import Derived.Test.YtgjdaeaiheibbabDoorCur
namespace Go.Proofs.YtgjdaeaiheibbabDoor
set_option maxRecDepth 100000
open Go.ChangeShapes Go.WideShapes Go.ChangeAt Go.RowKit Go.Joins

section
variable {H : Type} {enc : TypeId × Value → H}
/-- A slice of bytes that came in. -/
theorem open_BS {P : Program} {W : World} {t e : TypeId} {r : Reach} {base : Nat} {v : Value} {d : DataW H} {p : List MemPlace} (ht : P.underlying t = some (.slice e)) (he : P.underlying e = some (.int .u8)) (hc : P.cellsOf e = 1)
    (hv : Value.okWide P W r base t v) (h : DataW.Trod enc P W 0 (fun _ => true) true t v d p) :
    ∃ (a : Option Addr) (cap : Nat) (l : List Int), v = .slice a l.length cap ∧ BS W v l := by
  obtain ⟨a0, len, cap, rfl⟩ := okWide_slice ht hv
  obtain ⟨fuel, hf⟩ := h
  rcases open_ints ht he hc hf with ⟨hcs, hx⟩ | ⟨a, len', cap', zs, hcs, _, hl, hm, hz, hx, hcell, hwz⟩
  · simp [Value.cells] at hcs
    obtain ⟨rfl, rfl, rfl⟩ := hcs
    exact ⟨none, 0, [], rfl, by simp, Or.inl ⟨rfl, _, _, rfl⟩⟩
  · simp [Value.cells] at hcs
    obtain ⟨rfl, rfl, rfl⟩ := hcs
    simp at hz
    have hlen : (zs.take len).length = len := by simp; omega
    refine ⟨some a, cap, zs.take len, by rw [hlen], fun z hz' => ?_, ?_⟩
    · have := hwz z (List.mem_of_mem_take hz')
      simp [Lit.wf, IntKind.min, IntKind.max, IntKind.signed, IntKind.bits] at this
      omega
    by_cases h0 : len = 0
    · subst h0; exact Or.inl ⟨by simp, _, _, rfl⟩
    · refine Or.inr ⟨fun e => h0 (by rw [← hlen, e]; rfl), ?_⟩
      have c0 := hcell 0 (by omega)
      have hsp : a.spot = none := by
        unfold Addr.add at c0
        simp only [if_true] at c0
        unfold World.cell? at c0
        split at c0
        · split at c0
          · cases c0
          · rename_i hh; simpa using hh
        · cases c0
      obtain ⟨b, off, spot⟩ := a
      simp only at hsp
      subst hsp
      refine ⟨b, off, cap, by rw [hlen], by omega, fun i hi => ?_⟩
      rw [hlen] at hi
      have ci := hcell i (by omega)
      rw [Addr.add_lit] at ci
      rw [ci]
      simp [List.getD, hi]
end

theorem cellsY : Tryd.prog.cellsOf 5 = 1 := by kernel_rfl
end Go.Proofs.YtgjdaeaiheibbabDoor
