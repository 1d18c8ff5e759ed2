/- The program's PowerAtRoots. -/
import Derived.Test.YtmckophclehkpaaRowB
import Derived.Test.YtmckophclehkpaaIVr
namespace Go.Proofs.Ytmckophclehkpaa
open Go.RowKit

def powG (l : List Int) : List Int := gen 4 (fun (k : Nat) => norm (vrS vx l k) (vrS vy l k))
def powF (l : List Int) : List Int := if isSeq l then powG l else []
theorem powF_len (l : List Int) : (powF l).length ≤ 1048576 := by unfold powF; split <;> simp [powG, gen]
set_option maxRecDepth 100000 in
set_option maxHeartbeats 2000000 in
theorem ipowers (va : Value) (a : List Int) (w : World) (hva : IS w va a) (hla : a.length ≤ 1048576) :
    Calls Try.prog 30 #[va] w (MakesB w (powF a) (isSeq a)) := by
  obtain ⟨i0, hi, hz0, hz1, hz2⟩ := info_parts infoInt
  have HPR := fun w h => phasesOf_any va a w h hla
  have hsa := phC_size a
  have hoa := phC_one a
  have hia : (Try.prog.info? 47).map (·.size) = some (phC a).size := by rw [hsa]; exact infoPh
  have HAP : isSeq a = true → ∀ k : Nat, k < 4 → ∀ w, Calls Try.prog 47 #[.agg (phC a), .int .i64 k] w (Ret w (.complex .f32 (f32of (vrS vx a k)) (f32of (vrS vy a k)))) := fun h0 k h1 w => by
    rw [phC_seq' h0]; exact valueAtRoot_any a k h0 (by omega) (by omega) w
  have HNO : isSeq a = true → ∀ k : Nat, k < 4 → ∀ w, Calls Try.prog 49 #[.complex .f32 (f32of (vrS vx a k)) (f32of (vrS vy a k))] w (Pure w (.int .i64 ((powG a).getD k 0))) := fun h0 k h1 w => by
    have h32 := isSeq_len h0
    have := normOfSum_any (vrS vx a k) (vrS vy a k) (vrS_small vx vx_one a k h32) (vrS_small vy vy_one a k h32) w
    unfold powG
    rw [gen_getD _ _ k h1]
    exact this
  have hlen : (powG a).length = 4 := gen_length _ _
  obtain ⟨CA, hCA⟩ : ∃ C, C = phC a := ⟨_, rfl⟩
  rw [← hCA] at HPR hsa hoa hia HAP
  obtain ⟨F, hF⟩ : ∃ F : Nat → Nat, F = fun k : Nat => f32of (vrS vx a k) := ⟨_, rfl⟩
  obtain ⟨G, hG⟩ : ∃ F : Nat → Nat, F = fun k : Nat => f32of (vrS vy a k) := ⟨_, rfl⟩
  have HAP2 : isSeq a = true → ∀ k : Nat, k < 4 → ∀ w, Calls Try.prog 47 #[.agg CA, .int .i64 k] w (Ret w (.complex .f32 (F k) (G k))) := fun h0 k h1 w => by rw [hF, hG]; exact HAP h0 k h1 w
  obtain ⟨L, hL⟩ : ∃ L, L = powG a := ⟨_, rfl⟩
  have HNO2 : isSeq a = true → ∀ k : Nat, k < 4 → ∀ w, Calls Try.prog 49 #[.complex .f32 (F k) (G k)] w (Pure w (.int .i64 (L.getD k 0))) := fun h0 k h1 w => by rw [hF, hG, hL]; exact HNO h0 k h1 w
  rw [← hL] at hlen
  have e1 : powF a = if isSeq a then L else [] := by unfold powF; rw [hL]
  rw [e1]
  obtain ⟨sa, hsq⟩ : ∃ s, s = isSeq a := ⟨_, rfl⟩
  rw [← hsq] at HAP2 HNO2 HPR ⊢
  have HPR' := Lib.hid HPR
  have HSA := Lib.hid hsa
  have HOA := Lib.hid hoa
  have HIA := Lib.hid hia
  have HAP' := Lib.hid HAP2
  have HNO' := Lib.hid HNO2
  have HLEN := Lib.hid hlen
  clear HPR hsa hoa hia HAP HAP2 HNO HNO2 hCA hF hG hL e1 hsq hla hlen
  cases sa with
  | false =>
    rw [if_neg (by decide)]
    go_enter Try.func30, Try.ntmps30
    go_wp2_with fail
    refine (HPR'.out _ hva).mono ?_
    rintro e w1 ⟨rfl, hb1⟩
    go_wp2_with (first
      | (refine wpList_alloc_big rfl 47 rfl (phA z32 0) zeroPh ?_)
      | (refine wpList_store_big rfl 47 (.tmp 4) (.tmp 11) rfl w1.heap.size CA rfl rfl 47 _ (heap_alloc_new w1 _) 33 infoPh HSA.out (phA_size _ _ z32_length) HOA.out w1.heap.size w1 (belowa (Below.refl _ _) _) (Nat.le_refl _) ?_; intro w2 hg2 ho2 hz2 hb2; have hB2 := joins hb1 hb2; clear hg2 ho2 hz2 hb2))
    go_returns
    exact ⟨_, rfl, World.ownsRow_nil _ _ _ _, hB2⟩
  | true =>
    rw [if_pos rfl]
    go_enter Try.func30, Try.ntmps30
    go_wp2_with fail
    refine (HPR'.out _ hva).mono ?_
    rintro e w1 ⟨rfl, hb1⟩
    go_wp2_with (first
      | (refine wpList_alloc_big rfl 47 rfl (phA z32 0) zeroPh ?_)
      | (refine wpList_store_big rfl 47 (.tmp 4) (.tmp 11) rfl w1.heap.size CA rfl rfl 47 _ (heap_alloc_new w1 _) 33 infoPh HSA.out (phA_size _ _ z32_length) HOA.out w1.heap.size w1 (belowa (Below.refl _ _) _) (Nat.le_refl _) ?_; intro w2 hg2 ho2 hz2 hb2; have HG2 := Lib.hid hg2; have hs2 : w1.heap.size < w2.heap.size := (by rw [hz2]; simp); have hB2 := joins hb1 hb2; clear hg2 ho2 hz2 hb2)
      | (at_make; refine wpList_make_full _ rfl _ _ 22 rfl w2.heap.size 3 i0 (.int .i64 0) 1 Try.underlying22 hi hz0 hz1 _ _ _ _ 4 rfl rfl rfl rfl ?b2 ?b3 (Nat.le_refl _) ?_))
    case b2 => rw [hz2]; omega
    case b3 => unfold maxLen; omega
    intro w3 hown0 hgrow0
    rw [made_zeros] at hown0
    have h37 := (hgrow0.block w1.heap.size hs2 (by simp)).trans HG2.out
    have hB3 := hB2.grown hgrow0 hB2.size (fun k h => by cases h)
    have hs1 := hb1.size
    have HO0 := Lib.hid hown0
    have H37 := Lib.hid h37
    have HB3 := Lib.hid hB3
    clear hown0 hgrow0 h37 hB3 hB2 hb1 hi hz0 hz1 hz2
    go_wp2_with fail
    go_loopw [18] (fun i wr => ∃ j : Nat, j ≤ 4 ∧ i = .int .i64 j ∧ wr.ownsRow w2.heap.size 3 1 (.slice (some ⟨w2.heap.size, 0, none⟩) 4 4) 4 ((L.take j ++ List.replicate (4 - j) (0 : Int)).map (Value.int .i64)) ∧ wr.heap[w1.heap.size]? = some (.cells CA 47 (0, 0)) ∧ Below w.heap.size w wr) (fun i _ => 4 - (intOf i).toNat)
    case atStart => exact ⟨0, Nat.zero_le _, rfl, by simpa using HO0.out, H37.out, HB3.out⟩
    case round =>
      obtain ⟨j, hj, rfl, hown, hb7, hbel⟩ := hrel
      have HOWN := Lib.hid hown
      have HB7 := Lib.hid hb7
      have HBEL := Lib.hid hbel
      clear hown hb7 hbel
      by_cases hlt : j < 4
      · have h0 : (0 : Int) ≤ (j : Int) := by omega
        have h1 : (j : Int) < 4 := by omega
        have HAj := Lib.hid (HAP'.out (by trivial) j hlt)
        have HNj := Lib.hid (HNO'.out (by trivial) j hlt)
        obtain ⟨x, hx⟩ : ∃ x, x = L.getD j 0 := ⟨_, rfl⟩
        rw [← hx] at HNj
        have HX := Lib.hid hx
        clear hx
        go_wp2_with (refine wpList_load_row rfl 47 (.tmp 4) rfl w1.heap.size rfl 47 CA (0, 0) _ HB7.out Try.underlying47 rfl HIA.out ?_)
        refine (HAj.out _).mono ?_
        rintro e w5 ⟨rfl, hb5⟩
        have ho5 := rowBelow HOWN.out hb5
        have h57 := (hb5.block w1.heap.size (Array.getElem?_eq_some_iff.1 HB7.out).1).trans HB7.out
        have hB5 := joins HBEL.out hb5
        have c1 : w5.cell? ⟨w2.heap.size, j, none⟩ = some (.int .i64 0) := by
          rw [ho5.cellAt j (by omega)]
          have := copy_at L j (by rw [HLEN.out]; exact hlt)
          rwa [HLEN.out] at this
        have c2 := ho5.frozenAt j
        have HO5 := Lib.hid ho5
        have H57 := Lib.hid h57
        have HB5 := Lib.hid hB5
        clear ho5 h57 hB5 hb5
        go_wp2_with fail
        refine (HNj.out _).mono ?_
        rintro e w6 ⟨rfl, rfl⟩
        go_wp2_with fail
        go_roundw
        case rel =>
          have hs := HO5.out.stored j (.int .i64 x)
          rw [HX.out, set_copy L 4 HLEN.out.symm j (by rw [HLEN.out]; exact hlt)] at hs
          rw [← HX.out] at hs
          exact ⟨j + 1, by omega, by go_num, hs.1, (heap_setCell_other w5 ⟨w2.heap.size, j, none⟩ w1.heap.size _ (by simp; omega)).trans H57.out, HB5.out.setCell (by simp; omega) _⟩
        case measure => simp [intOf]; omega
      · have he : j = 4 := by omega
        subst he
        go_wp2_with fail
        go_returns
        refine ⟨_, rfl, ?_, HBEL.out⟩
        have := HOWN.out
        rw [Nat.sub_self, show L.take 4 = L from by rw [← HLEN.out, List.take_length]] at this
        have := rowMono (B' := w.heap.size) this (by omega)
        unfold Own
        rw [HLEN.out]
        simpa using this
end Go.Proofs.Ytmckophclehkpaa
