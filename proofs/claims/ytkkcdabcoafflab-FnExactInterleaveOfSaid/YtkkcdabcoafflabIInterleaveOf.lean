/- The program's InterleaveOf. -/
import Derived.Test.YtkkcdabcoafflabWeaved
namespace Go.Proofs.Ytkkcdabcoafflab
open Go.RowKit

theorem phasesOf_all (l : List Int) (hlen : l.length ≤ 1048576) : ∃ C : Array Value, C.size = 33 ∧ C.all (·.oneCell') = true ∧ (isSeq l = true → C = phA (padL l) l.length) ∧
    ∀ (v : Value) (w : World), IS w v l → Calls Try.prog 63 #[v] w (Ret w (.tuple #[.agg C, .bool (isSeq l)])) := by
  by_cases hs : isSeq l = true
  · refine ⟨phA (padL l) l.length, phA_size _ _ (padL_length (isSeq_len hs)), phA_one _ _, fun _ => rfl, fun v w h => ?_⟩
    rw [hs]
    exact phasesOf_seq v l w h hs
  · have hs2 : isSeq l = false := by simpa using hs
    refine ⟨phA z32 0, phA_size _ _ z32_length, phA_one _ _, fun h => absurd h hs, fun v w h => ?_⟩
    rw [hs2]
    exact phasesOf_not v l w h hs2 hlen

set_option maxRecDepth 100000 in
set_option maxHeartbeats 4000000 in
theorem iweave (va vb : Value) (l m : List Int) (w : World) (hva : IS w va l) (hvb : IS w vb m) (hlen : l.length ≤ 1048576) (hlem : m.length ≤ 1048576) : Calls Try.prog 24 #[va, vb] w (MakesB w (weaveF l m) (weaveOk l m)) := by
  obtain ⟨C, hC, hC1, hCe, hPA⟩ := phasesOf_all l hlen
  obtain ⟨D, hD, hD1, hDe, hPB⟩ := phasesOf_all m hlem
  have HPA := Lib.hid hPA
  have HPB := Lib.hid hPB
  have HC := Lib.hid hC
  have HD := Lib.hid hD
  have HC1 := Lib.hid hC1
  have HD1 := Lib.hid hD1
  have hiC : (Try.prog.info? 54).map (·.size) = some C.size := by rw [hC]; exact infoPh
  have hiD : (Try.prog.info? 54).map (·.size) = some D.size := by rw [hD]; exact infoPh
  have HIC := Lib.hid hiC
  have HID := Lib.hid hiD
  clear hPA hPB hC hD hC1 hD1 hiC hiD
  by_cases hs : isSeq l = true
  · by_cases ht : isSeq m = true
    · have h32 := isSeq_len hs
      have h32m := isSeq_len ht
      have hC := hCe hs
      have hD := hDe ht
      by_cases hc : weaveC l m = true
      · have ho : weaveOk l m = true := by simp [weaveOk, hs, ht, hc]
        have hf : weaveF l m = weaveG l m := by simp [weaveF, ho]
        have hg32 := weaveG_len l m hs ht hc
        rw [ho, hf]
        obtain ⟨E, hE⟩ : ∃ E, E = phA (padL (weaveG l m)) ((weaveG l m).length : Int) := ⟨_, rfl⟩
        have hE1 : E.all (·.oneCell') = true := by rw [hE]; exact phA_one _ _
        have hEs : E.size = 33 := by rw [hE]; exact phA_size _ _ (padL_length hg32)
        have hiE : (Try.prog.info? 54).map (·.size) = some E.size := by rw [hEs]; exact infoPh
        have HME : ∀ w : World, Calls Try.prog 48 #[.agg C, .agg D] w (Ret w (.tuple #[.agg E, .bool true])) := fun w => by rw [hC, hD, hE]; exact weaved_any l m (by simpa [weaveC] using hc) w
        have HLI : ∀ w : World, Calls Try.prog 64 #[.agg E] w (Makes w (weaveG l m)) := fun w => by
          have := list_any (padL (weaveG l m)) (weaveG l m).length (padL_length hg32) hg32 w
          rw [hE]
          rwa [pad_take] at this
        have HME' := Lib.hid HME
        have HLI' := Lib.hid HLI
        have HE1 := Lib.hid hE1
        have HES := Lib.hid hEs
        have HIE := Lib.hid hiE
        clear ho hf hc hC hD hE HME HLI hE1 hEs hiE hCe hDe h32 h32m hg32
        have tok1 : True := trivial
        go_enter Try.func24, Try.ntmps24
        go_wp2_with (first
          | (go_at_call 63; have _t := tok1; refine (HPA.out _ _ hva).mono ?_; rintro e w1 ⟨rfl, hb1⟩; clear tok1)
          | (go_at_call 63; refine (HPB.out _ _ (hvb.below hb2)).mono ?_; rintro e w3 ⟨rfl, hb3⟩; have hB3 := joins hb2 hb3; have hz3 := hb3.size; have K3 := Lib.hid ((hb3.block w1.heap.size (by omega)).trans G2.out))
          | (refine wpList_alloc_big rfl 54 rfl (phA z32 0) zeroPh ?_)
          | (refine wpList_store_big rfl 54 (.tmp 8) (.tmp 17) rfl w1.heap.size C rfl rfl 54 (phA z32 0) (heap_alloc_new _ _) 33 infoPh HC.out (phA_size _ _ z32_length) HC1.out w.heap.size w (belowa (by assumption) _) (hb1.size) ?_; intro w2 hg2 ho2 hz2 hb2; have G2 := Lib.hid hg2; rw [World.size_alloc] at hz2; clear hg2 ho2)
          | (refine wpList_store_big rfl 54 (.tmp 10) (.tmp 22) rfl w3.heap.size D rfl rfl 54 (phA z32 0) (heap_alloc_new _ _) 33 infoPh HD.out (phA_size _ _ z32_length) HD1.out w.heap.size w (belowa hB3 _) (hB3.size) ?_; intro w4 hg4 ho4 hz4 hb4; have G4 := Lib.hid hg4; have K4 := Lib.hid ((ho4 w1.heap.size (by omega)).trans ((heap_alloc_old _ _ (by omega)).trans K3.out)); clear hg4 ho4)
          | (refine wpList_load_row rfl 54 (.tmp 8) rfl w1.heap.size rfl 54 C (0, 0) _ K4.out Try.underlying54 rfl HIC.out ?_)
          | (refine wpList_load_row rfl 54 (.tmp 10) rfl w3.heap.size rfl 54 D (0, 0) _ G4.out Try.underlying54 rfl HID.out ?_)
          | (go_at_call 48; refine (HME'.out _).mono ?_; rintro e w5 ⟨rfl, hb5⟩; have hB5 := joins hb4 hb5)
          | (refine wpList_store_big rfl 54 (.tmp 12) (.tmp 35) rfl _ E rfl rfl 54 (phA z32 0) (heap_alloc_new _ _) 33 infoPh HES.out (phA_size _ _ z32_length) HE1.out w.heap.size w (belowa (by assumption) _) (hB5.size) ?_; intro w6 hg6 ho6 hz6 hb6)
          | (refine wpList_load_row rfl 54 (.tmp 12) rfl _ rfl 54 E (0, 0) _ hg6 Try.underlying54 rfl HIE.out ?_)
          | (go_at_call 64; refine (HLI'.out _).mono ?_; rintro e w7 ⟨v7, rfl, ho7, hb7⟩; have hB7 := joins hb6 hb7)
          | go_in)
        go_returns
        exact ⟨_, rfl, Own.mono ‹Own _ _ _ _› hb6.size, ‹Below w.heap.size w _›⟩
      · have ho : weaveOk l m = false := by simp [weaveOk, hc]
        have hf : weaveF l m = [] := by simp [weaveF, ho]
        rw [ho, hf]
        have HME : ∀ w : World, Calls Try.prog 48 #[.agg C, .agg D] w (Ret w (.tuple #[.agg (phA z32 0), .bool false])) := fun w => by rw [hC, hD]; exact weaved_not l m hs ht (by simpa [weaveC] using hc) w
        have HME' := Lib.hid HME
        clear ho hf hc hC hD HME hCe hDe h32 h32m
        have tok1 : True := trivial
        go_enter Try.func24, Try.ntmps24
        go_wp2_with (first
          | (go_at_call 63; have _t := tok1; refine (HPA.out _ _ hva).mono ?_; rintro e w1 ⟨rfl, hb1⟩; clear tok1)
          | (go_at_call 63; refine (HPB.out _ _ (hvb.below hb2)).mono ?_; rintro e w3 ⟨rfl, hb3⟩; have hB3 := joins hb2 hb3; have hz3 := hb3.size; have K3 := Lib.hid ((hb3.block w1.heap.size (by omega)).trans G2.out))
          | (refine wpList_alloc_big rfl 54 rfl (phA z32 0) zeroPh ?_)
          | (refine wpList_store_big rfl 54 (.tmp 8) (.tmp 17) rfl w1.heap.size C rfl rfl 54 (phA z32 0) (heap_alloc_new _ _) 33 infoPh HC.out (phA_size _ _ z32_length) HC1.out w.heap.size w (belowa (by assumption) _) (hb1.size) ?_; intro w2 hg2 ho2 hz2 hb2; have G2 := Lib.hid hg2; rw [World.size_alloc] at hz2; clear hg2 ho2)
          | (refine wpList_store_big rfl 54 (.tmp 10) (.tmp 22) rfl w3.heap.size D rfl rfl 54 (phA z32 0) (heap_alloc_new _ _) 33 infoPh HD.out (phA_size _ _ z32_length) HD1.out w.heap.size w (belowa hB3 _) (hB3.size) ?_; intro w4 hg4 ho4 hz4 hb4; have G4 := Lib.hid hg4; have K4 := Lib.hid ((ho4 w1.heap.size (by omega)).trans ((heap_alloc_old _ _ (by omega)).trans K3.out)); clear hg4 ho4)
          | (refine wpList_load_row rfl 54 (.tmp 8) rfl w1.heap.size rfl 54 C (0, 0) _ K4.out Try.underlying54 rfl HIC.out ?_)
          | (refine wpList_load_row rfl 54 (.tmp 10) rfl w3.heap.size rfl 54 D (0, 0) _ G4.out Try.underlying54 rfl HID.out ?_)
          | (go_at_call 48; refine (HME'.out _).mono ?_; rintro e w5 ⟨rfl, hb5⟩; have hB5 := joins hb4 hb5)
          | (refine wpList_store_big rfl 54 (.tmp 12) (.tmp 35) rfl _ (phA z32 0) rfl rfl 54 (phA z32 0) (heap_alloc_new _ _) 33 infoPh (phA_size _ _ z32_length) (phA_size _ _ z32_length) (phA_one _ _) w.heap.size w (belowa (by assumption) _) (hB5.size) ?_; intro w6 hg6 ho6 hz6 hb6)
          | go_in)
        go_returns
        exact ⟨_, rfl, World.ownsRow_nil _ _ _ _, ‹Below w.heap.size w _›⟩
    · have ht2 : isSeq m = false := by simpa using ht
      have ho : weaveOk l m = false := by simp [weaveOk, ht2]
      have hf : weaveF l m = [] := by simp [weaveF, ho]
      rw [ho, hf]
      clear ho hf ht hCe hDe
      have tok1 : True := trivial
      go_enter Try.func24, Try.ntmps24
      go_wp2_with (first
          | (go_at_call 63; have _t := tok1; refine (HPA.out _ _ hva).mono ?_; rintro e w1 ⟨rfl, hb1⟩; clear tok1)
          | (go_at_call 63; refine (HPB.out _ _ (hvb.below hb2)).mono ?_; rintro e w3 ⟨rfl, hb3⟩; have hB3 := joins hb2 hb3; have hz3 := hb3.size; have K3 := Lib.hid ((hb3.block w1.heap.size (by omega)).trans G2.out))
          | (refine wpList_alloc_big rfl 54 rfl (phA z32 0) zeroPh ?_)
          | (refine wpList_store_big rfl 54 (.tmp 8) (.tmp 17) rfl w1.heap.size C rfl rfl 54 (phA z32 0) (heap_alloc_new _ _) 33 infoPh HC.out (phA_size _ _ z32_length) HC1.out w.heap.size w (belowa (by assumption) _) (hb1.size) ?_; intro w2 hg2 ho2 hz2 hb2; have G2 := Lib.hid hg2; rw [World.size_alloc] at hz2; clear hg2 ho2)
          | (refine wpList_store_big rfl 54 (.tmp 10) (.tmp 22) rfl w3.heap.size D rfl rfl 54 (phA z32 0) (heap_alloc_new _ _) 33 infoPh HD.out (phA_size _ _ z32_length) HD1.out w.heap.size w (belowa hB3 _) (hB3.size) ?_; intro w4 hg4 ho4 hz4 hb4; have G4 := Lib.hid hg4; have K4 := Lib.hid ((ho4 w1.heap.size (by omega)).trans ((heap_alloc_old _ _ (by omega)).trans K3.out)); clear hg4 ho4)
          | (refine wpList_load_row rfl 54 (.tmp 8) rfl w1.heap.size rfl 54 C (0, 0) _ K4.out Try.underlying54 rfl HIC.out ?_)
          | (refine wpList_load_row rfl 54 (.tmp 10) rfl w3.heap.size rfl 54 D (0, 0) _ G4.out Try.underlying54 rfl HID.out ?_)
          | go_in)
      go_returns
      exact ⟨_, rfl, World.ownsRow_nil _ _ _ _, ‹Below w.heap.size w _›⟩
  · have hs2 : isSeq l = false := by simpa using hs
    have ho : weaveOk l m = false := by simp [weaveOk, hs2]
    have hf : weaveF l m = [] := by simp [weaveF, ho]
    rw [ho, hf]
    clear ho hf hs hCe hDe
    have tok1 : True := trivial
    go_enter Try.func24, Try.ntmps24
    go_wp2_with (first
          | (go_at_call 63; have _t := tok1; refine (HPA.out _ _ hva).mono ?_; rintro e w1 ⟨rfl, hb1⟩; clear tok1)
          | (go_at_call 63; refine (HPB.out _ _ (hvb.below hb2)).mono ?_; rintro e w3 ⟨rfl, hb3⟩; have hB3 := joins hb2 hb3; have hz3 := hb3.size; have K3 := Lib.hid ((hb3.block w1.heap.size (by omega)).trans G2.out))
          | (refine wpList_alloc_big rfl 54 rfl (phA z32 0) zeroPh ?_)
          | (refine wpList_store_big rfl 54 (.tmp 8) (.tmp 17) rfl w1.heap.size C rfl rfl 54 (phA z32 0) (heap_alloc_new _ _) 33 infoPh HC.out (phA_size _ _ z32_length) HC1.out w.heap.size w (belowa (by assumption) _) (hb1.size) ?_; intro w2 hg2 ho2 hz2 hb2; have G2 := Lib.hid hg2; rw [World.size_alloc] at hz2; clear hg2 ho2)
          | (refine wpList_store_big rfl 54 (.tmp 10) (.tmp 22) rfl w3.heap.size D rfl rfl 54 (phA z32 0) (heap_alloc_new _ _) 33 infoPh HD.out (phA_size _ _ z32_length) HD1.out w.heap.size w (belowa hB3 _) (hB3.size) ?_; intro w4 hg4 ho4 hz4 hb4; have G4 := Lib.hid hg4; have K4 := Lib.hid ((ho4 w1.heap.size (by omega)).trans ((heap_alloc_old _ _ (by omega)).trans K3.out)); clear hg4 ho4)
          | (refine wpList_load_row rfl 54 (.tmp 8) rfl w1.heap.size rfl 54 C (0, 0) _ K4.out Try.underlying54 rfl HIC.out ?_)
          | (refine wpList_load_row rfl 54 (.tmp 10) rfl w3.heap.size rfl 54 D (0, 0) _ G4.out Try.underlying54 rfl HID.out ?_)
          | go_in)
    go_returns
    exact ⟨_, rfl, World.ownsRow_nil _ _ _ _, ‹Below w.heap.size w _›⟩
end Go.Proofs.Ytkkcdabcoafflab
