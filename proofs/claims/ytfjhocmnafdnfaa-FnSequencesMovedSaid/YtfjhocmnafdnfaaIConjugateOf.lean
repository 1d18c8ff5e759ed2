/- The program's ConjugateOf. -/
import Derived.Test.YtfjhocmnafdnfaaMov
namespace Go.Proofs.Ytfjhocmnafdnfaa
set_option maxRecDepth 100000
open Go.RowKit

set_option maxRecDepth 100000 in
set_option maxHeartbeats 2000000 in
theorem ibar (v : Value) (l : List Int) (w : World) (hv : IS w v l) (hlen : l.length ≤ 1048576) : Calls Try.prog 25 #[v] w (MakesB w (barF l) (barOk l)) := by
  by_cases hs : isSeq l = true
  · skip
    have h32 := isSeq_len hs
    have ho : barOk l = true := by simp [barOk, hs]
    have hf : barF l = barG l := by simp [barF, ho]
    rw [ho, hf]
    clear ho hf
    obtain ⟨C, hC⟩ : ∃ C, C = phA (padL l) (l.length : Int) := ⟨_, rfl⟩
    have hC1 : C.all (·.oneCell') = true := by rw [hC]; exact phA_one _ _
    have hCs : C.size = 33 := by rw [hC]; exact phA_size _ _ (padL_length h32)
    have hinfo : (Try.prog.info? 97).map (·.size) = some C.size := by rw [hCs]; exact infoPh
    have HPO : ∀ (v : Value) (w : World), IS w v l → Calls Try.prog 127 #[v] w (Ret w (.tuple #[.agg C, .bool true])) := fun v w h => by rw [hC]; exact phasesOf_seq v l w h hs
    obtain ⟨D, hD⟩ : ∃ D, D = phA (padL (barG l)) (l.length : Int) := ⟨_, rfl⟩
    have HME : ∀ w : World, Calls Try.prog 116 #[.agg C] w (Ret w (.agg D)) := fun w => by rw [hC, hD]; exact conjugate_any l hs w
    have hGl : (barG l).length = l.length := gen_length _ _
    have HLI : ∀ w : World, Calls Try.prog 153 #[.agg D] w (Makes w (barG l)) := fun w => by
      have := list_any (padL (barG l)) l.length (padL_length (by rw [hGl]; exact h32)) h32 w
      rw [hD]
      have e : (padL (barG l)).take l.length = barG l := by
        have := pad_take (barG l)
        rwa [hGl] at this
      rwa [e] at this
    have HPO' := Lib.hid HPO
    have HME' := Lib.hid HME
    have HLI' := Lib.hid HLI
    have HC1 := Lib.hid hC1
    have HCS := Lib.hid hCs
    have HINFO := Lib.hid hinfo
    clear HPO HME HLI hC1 hCs hinfo hC hD hGl hs
    go_enter Try.func25, Try.ntmps25
    go_wp2_with (first
      | (go_at_call 127; refine (HPO'.out _ _ hv).mono ?_; rintro e w1 ⟨rfl, hb1⟩)
      | (go_at_call 116; refine (HME'.out _).mono ?_; rintro e w5 ⟨rfl, hb5⟩; have hB5 := joins hb4 hb5)
      | (go_at_call 153; refine (HLI'.out _).mono ?_; rintro e w6 ⟨v6, rfl, ho6, hb6⟩; have hB6 := joins hB5 hb6)
      | (refine wpList_alloc_big rfl 97 rfl (phA z32 0) zeroPh ?_)
      | (refine wpList_store_big rfl 97 (.tmp 6) (.tmp 11) rfl _ C rfl rfl 97 (phA z32 0) (heap_alloc_new _ _) 33 infoPh HCS.out (phA_size _ _ z32_length) HC1.out w.heap.size w (belowa (by assumption) _) (hb1.size) ?_; intro w4 hg4 ho4 hz4 hb4)
      | (refine wpList_load_row rfl 97 (.tmp 6) rfl _ rfl 97 C (0, 0) _ hg4 Try.underlying97 rfl HINFO.out ?_)
      | go_in)
    go_returns
    exact ⟨_, rfl, Own.mono ‹Own _ _ _ _› (by have := hb4.size; have := hb5.size; omega), ‹Below w.heap.size w _›⟩
  · have hs2 : isSeq l = false := by simpa using hs
    have ho : barOk l = false := by simp [barOk, hs2]
    have hf : barF l = [] := by simp [barF, ho]
    rw [ho, hf]
    clear ho hf hs
    go_enter Try.func25, Try.ntmps25
    go_wp2_with (first
      | (go_at_call 127; refine (phasesOf_not _ l _ hv hs2 hlen).mono ?_; rintro e w1 ⟨rfl, hb1⟩)
      | (refine wpList_alloc_big rfl 97 rfl (phA z32 0) zeroPh ?_)
      | (refine wpList_store_big rfl 97 (.tmp 6) (.tmp 11) rfl _ (phA z32 0) rfl rfl 97 (phA z32 0) (heap_alloc_new _ _) 33 infoPh (phA_size _ _ z32_length) (phA_size _ _ z32_length) (phA_one _ _) w.heap.size w (belowa (by assumption) _) (hb1.size) ?_; intro w4 hg4 ho4 hz4 hb4)
      | go_in)
    go_returns
    exact ⟨_, rfl, World.ownsRow_nil _ _ _ _, ‹Below w.heap.size w _›⟩
end Go.Proofs.Ytfjhocmnafdnfaa
