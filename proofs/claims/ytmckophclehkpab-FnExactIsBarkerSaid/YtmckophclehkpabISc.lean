/- The program's SideEnergy, PeakSide and IsBarker. -/
import Derived.Test.YtmckophclehkpabIEn
import Derived.Test.YtmckophclehkpabPairA
namespace Go.Proofs.Ytmckophclehkpab
open Go.RowKit

set_option maxRecDepth 100000 in
set_option maxHeartbeats 1000000 in
theorem isideEnergy (va : Value) (a : List Int) (w : World) (hva : IS w va a) (hla : a.length ≤ 1048576) :
    Calls Try.prog 12 #[va] w (Ret w (.tuple #[.int .i64 (if isSeq a then sideE a else 0), .bool (isSeq a)])) := by
  have HPR := fun w h => phasesOf_any va a w h hla
  have hsa := phC_size a
  have hoa := phC_one a
  have hia : (Try.prog.info? 43).map (·.size) = some (phC a).size := by rw [hsa]; exact infoPh
  have HAP : isSeq a = true → ∀ w, Calls Try.prog 32 #[.agg (phC a)] w (Ret w (.int .i64 (sideE a))) := fun h0 w => by
    rw [phC_seq h0]; exact sideEnergy_any a h0 w
  obtain ⟨CA, hCA⟩ : ∃ C, C = phC a := ⟨_, rfl⟩
  rw [← hCA] at HPR hsa hoa hia HAP
  obtain ⟨X, hX⟩ : ∃ f, f = sideE a := ⟨_, rfl⟩
  rw [← hX] at HAP ⊢
  obtain ⟨sa, hsq⟩ : ∃ s, s = isSeq a := ⟨_, rfl⟩
  rw [← hsq] at HAP HPR ⊢
  have HPR' := Lib.hid HPR
  have HSA := Lib.hid hsa
  have HOA := Lib.hid hoa
  have HIA := Lib.hid hia
  have HAP' := Lib.hid HAP
  clear HPR hsa hoa hia HAP hCA hX hsq hla
  cases sa with
  | true =>
    rw [if_pos rfl]
    go_enter Try.func12, Try.ntmps12
    go_wp2_with fail
    refine (HPR'.out _ hva).mono ?_
    rintro e w1 ⟨rfl, hb1⟩
    go_wp2_with (first
      | (refine wpList_alloc_big rfl 43 rfl (phA z32 0) zeroPh ?_)
      | (refine wpList_store_big rfl 43 (.tmp 4) (.tmp 9) rfl w1.heap.size CA rfl rfl 43 _ (heap_alloc_new w1 _) 33 infoPh HSA.out (phA_size _ _ z32_length) HOA.out w1.heap.size w1 (belowa (Below.refl _ _) _) (Nat.le_refl _) ?_; intro w2 hg2 ho2 hz2 hb2; have HG2 := Lib.hid hg2; have HB2 := Lib.hid (joins hb1 hb2); clear hg2 ho2 hz2 hb2)
      | (refine wpList_load_row rfl 43 (.tmp 4) rfl w1.heap.size rfl 43 CA (0, 0) _ HG2.out Try.underlying43 rfl HIA.out ?_))
    refine (HAP'.out (by trivial) _).mono ?_
    rintro e w3 ⟨rfl, hb3⟩
    have hB3 := joins HB2.out hb3
    go_wp2_with fail
    go_returns
    exact ⟨rfl, hB3⟩
  | false =>
    rw [if_neg (by decide)]
    go_enter Try.func12, Try.ntmps12
    go_wp2_with fail
    refine (HPR'.out _ hva).mono ?_
    rintro e w1 ⟨rfl, hb1⟩
    go_wp2_with (first
      | (refine wpList_alloc_big rfl 43 rfl (phA z32 0) zeroPh ?_)
      | (refine wpList_store_big rfl 43 (.tmp 4) (.tmp 9) rfl w1.heap.size CA rfl rfl 43 _ (heap_alloc_new w1 _) 33 infoPh HSA.out (phA_size _ _ z32_length) HOA.out w1.heap.size w1 (belowa (Below.refl _ _) _) (Nat.le_refl _) ?_; intro w2 hg2 ho2 hz2 hb2; have hB2 := joins hb1 hb2; clear hg2 ho2 hz2 hb2))
    go_returns
    exact ⟨rfl, hB2⟩

set_option maxRecDepth 100000 in
set_option maxHeartbeats 1000000 in
theorem ipeakSide (va : Value) (a : List Int) (w : World) (hva : IS w va a) (hla : a.length ≤ 1048576) :
    Calls Try.prog 18 #[va] w (Ret w (.tuple #[.int .i64 (if isSeq a then peakS a else 0), .bool (isSeq a)])) := by
  have HPR := fun w h => phasesOf_any va a w h hla
  have hsa := phC_size a
  have hoa := phC_one a
  have hia : (Try.prog.info? 43).map (·.size) = some (phC a).size := by rw [hsa]; exact infoPh
  have HAP : isSeq a = true → ∀ w, Calls Try.prog 36 #[.agg (phC a)] w (Ret w (.int .i64 (peakS a))) := fun h0 w => by
    rw [phC_seq h0]; exact peakSide_any a h0 w
  obtain ⟨CA, hCA⟩ : ∃ C, C = phC a := ⟨_, rfl⟩
  rw [← hCA] at HPR hsa hoa hia HAP
  obtain ⟨X, hX⟩ : ∃ f, f = peakS a := ⟨_, rfl⟩
  rw [← hX] at HAP ⊢
  obtain ⟨sa, hsq⟩ : ∃ s, s = isSeq a := ⟨_, rfl⟩
  rw [← hsq] at HAP HPR ⊢
  have HPR' := Lib.hid HPR
  have HSA := Lib.hid hsa
  have HOA := Lib.hid hoa
  have HIA := Lib.hid hia
  have HAP' := Lib.hid HAP
  clear HPR hsa hoa hia HAP hCA hX hsq hla
  cases sa with
  | true =>
    rw [if_pos rfl]
    go_enter Try.func18, Try.ntmps18
    go_wp2_with fail
    refine (HPR'.out _ hva).mono ?_
    rintro e w1 ⟨rfl, hb1⟩
    go_wp2_with (first
      | (refine wpList_alloc_big rfl 43 rfl (phA z32 0) zeroPh ?_)
      | (refine wpList_store_big rfl 43 (.tmp 4) (.tmp 9) rfl w1.heap.size CA rfl rfl 43 _ (heap_alloc_new w1 _) 33 infoPh HSA.out (phA_size _ _ z32_length) HOA.out w1.heap.size w1 (belowa (Below.refl _ _) _) (Nat.le_refl _) ?_; intro w2 hg2 ho2 hz2 hb2; have HG2 := Lib.hid hg2; have HB2 := Lib.hid (joins hb1 hb2); clear hg2 ho2 hz2 hb2)
      | (refine wpList_load_row rfl 43 (.tmp 4) rfl w1.heap.size rfl 43 CA (0, 0) _ HG2.out Try.underlying43 rfl HIA.out ?_))
    refine (HAP'.out (by trivial) _).mono ?_
    rintro e w3 ⟨rfl, hb3⟩
    have hB3 := joins HB2.out hb3
    go_wp2_with fail
    go_returns
    exact ⟨rfl, hB3⟩
  | false =>
    rw [if_neg (by decide)]
    go_enter Try.func18, Try.ntmps18
    go_wp2_with fail
    refine (HPR'.out _ hva).mono ?_
    rintro e w1 ⟨rfl, hb1⟩
    go_wp2_with (first
      | (refine wpList_alloc_big rfl 43 rfl (phA z32 0) zeroPh ?_)
      | (refine wpList_store_big rfl 43 (.tmp 4) (.tmp 9) rfl w1.heap.size CA rfl rfl 43 _ (heap_alloc_new w1 _) 33 infoPh HSA.out (phA_size _ _ z32_length) HOA.out w1.heap.size w1 (belowa (Below.refl _ _) _) (Nat.le_refl _) ?_; intro w2 hg2 ho2 hz2 hb2; have hB2 := joins hb1 hb2; clear hg2 ho2 hz2 hb2))
    go_returns
    exact ⟨rfl, hB2⟩

set_option maxRecDepth 100000 in
set_option maxHeartbeats 1000000 in
theorem iisBarker (va : Value) (a : List Int) (w : World) (hva : IS w va a) (hla : a.length ≤ 1048576) :
    Calls Try.prog 20 #[va] w (Ret w (.tuple #[.bool (if isSeq a then barB a else false), .bool (isSeq a)])) := by
  have HPR := fun w h => phasesOf_any va a w h hla
  have hsa := phC_size a
  have hoa := phC_one a
  have hia : (Try.prog.info? 43).map (·.size) = some (phC a).size := by rw [hsa]; exact infoPh
  have HAP : isSeq a = true → ∀ w, Calls Try.prog 38 #[.agg (phC a)] w (Ret w (.bool (barB a))) := fun h0 w => by
    rw [phC_seq h0]; exact isBarker_any a h0 w
  obtain ⟨CA, hCA⟩ : ∃ C, C = phC a := ⟨_, rfl⟩
  rw [← hCA] at HPR hsa hoa hia HAP
  obtain ⟨X, hX⟩ : ∃ f, f = barB a := ⟨_, rfl⟩
  rw [← hX] at HAP ⊢
  obtain ⟨sa, hsq⟩ : ∃ s, s = isSeq a := ⟨_, rfl⟩
  rw [← hsq] at HAP HPR ⊢
  have HPR' := Lib.hid HPR
  have HSA := Lib.hid hsa
  have HOA := Lib.hid hoa
  have HIA := Lib.hid hia
  have HAP' := Lib.hid HAP
  clear HPR hsa hoa hia HAP hCA hX hsq hla
  cases sa with
  | true =>
    rw [if_pos rfl]
    go_enter Try.func20, Try.ntmps20
    go_wp2_with fail
    refine (HPR'.out _ hva).mono ?_
    rintro e w1 ⟨rfl, hb1⟩
    go_wp2_with (first
      | (refine wpList_alloc_big rfl 43 rfl (phA z32 0) zeroPh ?_)
      | (refine wpList_store_big rfl 43 (.tmp 4) (.tmp 9) rfl w1.heap.size CA rfl rfl 43 _ (heap_alloc_new w1 _) 33 infoPh HSA.out (phA_size _ _ z32_length) HOA.out w1.heap.size w1 (belowa (Below.refl _ _) _) (Nat.le_refl _) ?_; intro w2 hg2 ho2 hz2 hb2; have HG2 := Lib.hid hg2; have HB2 := Lib.hid (joins hb1 hb2); clear hg2 ho2 hz2 hb2)
      | (refine wpList_load_row rfl 43 (.tmp 4) rfl w1.heap.size rfl 43 CA (0, 0) _ HG2.out Try.underlying43 rfl HIA.out ?_))
    refine (HAP'.out (by trivial) _).mono ?_
    rintro e w3 ⟨rfl, hb3⟩
    have hB3 := joins HB2.out hb3
    go_wp2_with fail
    go_returns
    exact ⟨rfl, hB3⟩
  | false =>
    rw [if_neg (by decide)]
    go_enter Try.func20, Try.ntmps20
    go_wp2_with fail
    refine (HPR'.out _ hva).mono ?_
    rintro e w1 ⟨rfl, hb1⟩
    go_wp2_with (first
      | (refine wpList_alloc_big rfl 43 rfl (phA z32 0) zeroPh ?_)
      | (refine wpList_store_big rfl 43 (.tmp 4) (.tmp 9) rfl w1.heap.size CA rfl rfl 43 _ (heap_alloc_new w1 _) 33 infoPh HSA.out (phA_size _ _ z32_length) HOA.out w1.heap.size w1 (belowa (Below.refl _ _) _) (Nat.le_refl _) ?_; intro w2 hg2 ho2 hz2 hb2; have hB2 := joins hb1 hb2; clear hg2 ho2 hz2 hb2))
    go_returns
    exact ⟨rfl, hB2⟩
end Go.Proofs.Ytmckophclehkpab
