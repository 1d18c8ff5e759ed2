/- The program's ValueAtRoot. -/
import Derived.Test.YtmckophclehkpaaPair
import Derived.Test.YtmckophclehkpaaVr
import Derived.Test.YtmckophclehkpaaCxG
namespace Go.Proofs.Ytmckophclehkpaa
open Go.RowKit

def vrOk (l : List Int) (k : Int) : Bool := isSeq l && decide (0 ≤ k ∧ k ≤ 3)
def vrF (f : Int → Int) (l : List Int) (k : Int) : Int := if vrOk l k then vrS f l k else 0
theorem phC_seq' {l : List Int} (h : isSeq l = true) : phC l = phA (padL l) l.length := by unfold phC sqz; rw [h]; rfl
set_option maxRecDepth 100000 in
set_option maxHeartbeats 2000000 in
theorem ivalueAtRoot (va : Value) (a : List Int) (k : Int) (w : World) (hva : IS w va a) (hla : a.length ≤ 1048576) :
    Calls Try.prog 28 #[va, .int .i64 k] w (Ret w (.tuple #[.agg #[.int .i64 (vrF vx a k), .int .i64 (vrF vy a k)], .bool (vrOk a k)])) := by
  have hz0 := ZG.start w 24
  have HPR := fun w h => phasesOf_any va a w h hla
  have hsa := phC_size a
  have hoa := phC_one a
  have hia : (Try.prog.info? 47).map (·.size) = some (phC a).size := by rw [hsa]; exact infoPh
  have HAP : isSeq a = true → 0 ≤ k → k ≤ 3 → ∀ w, Calls Try.prog 47 #[.agg (phC a), .int .i64 k] w (Ret w (.complex .f32 (f32of (vrS vx a k)) (f32of (vrS vy a k)))) := fun h0 h1 h2 w => by
    rw [phC_seq' h0]; exact valueAtRoot_any a k h0 h1 h2 w
  have HGO : isSeq a = true → ∀ w, Calls Try.prog 37 #[.complex .f32 (f32of (vrS vx a k)) (f32of (vrS vy a k))] w (Ret w (.agg #[.int .i64 (vrS vx a k), .int .i64 (vrS vy a k)])) := fun h0 w => by
    have h32 := isSeq_len h0
    have sX := vrS_small vx vx_one a k h32
    have sY := vrS_small vy vy_one a k h32
    exact gaussOf_any _ _ (by omega) (by omega) (by omega) (by omega) w
  obtain ⟨CA, hCA⟩ : ∃ C, C = phC a := ⟨_, rfl⟩
  rw [← hCA] at HPR hsa hoa hia HAP
  obtain ⟨fa, hfa⟩ : ∃ f, f = f32of (vrS vx a k) := ⟨_, rfl⟩
  obtain ⟨fb, hfb⟩ : ∃ f, f = f32of (vrS vy a k) := ⟨_, rfl⟩
  rw [← hfa, ← hfb] at HAP HGO
  have e1 : vrF vx a k = if isSeq a = true ∧ 0 ≤ k ∧ k ≤ 3 then vrS vx a k else 0 := by unfold vrF vrOk; cases isSeq a <;> simp
  have e2 : vrF vy a k = if isSeq a = true ∧ 0 ≤ k ∧ k ≤ 3 then vrS vy a k else 0 := by unfold vrF vrOk; cases isSeq a <;> simp
  have e3 : vrOk a k = decide (isSeq a = true ∧ 0 ≤ k ∧ k ≤ 3) := by unfold vrOk; cases isSeq a <;> simp
  rw [e1, e2, e3]
  obtain ⟨X, hX⟩ : ∃ f, f = vrS vx a k := ⟨_, rfl⟩
  obtain ⟨Y, hY⟩ : ∃ f, f = vrS vy a k := ⟨_, rfl⟩
  rw [← hX, ← hY] at HGO ⊢
  obtain ⟨sa, hsq⟩ : ∃ s, s = isSeq a := ⟨_, rfl⟩
  rw [← hsq] at HAP HGO HPR ⊢
  have HPR' := Lib.hid HPR
  have HSA := Lib.hid hsa
  have HOA := Lib.hid hoa
  have HIA := Lib.hid hia
  have HAP' := Lib.hid HAP
  have HGO' := Lib.hid HGO
  have HZ0 := Lib.hid hz0
  clear HPR hsa hoa hia HAP HGO hCA hfa hfb hX hY hz0 e1 e2 e3 hsq hla
  by_cases hok : sa = true ∧ 0 ≤ k ∧ k ≤ 3
  · rw [if_pos hok, if_pos hok, decide_eq_true hok]
    obtain ⟨rfl, hk1, hk2⟩ := hok
    go_enter Try.func28, Try.ntmps28
    go_wp2_with fail
    refine (HPR'.out _ (hva.step HZ0.out)).mono ?_
    rintro e w1 ⟨rfl, hb1⟩
    have HZ1 := Lib.hid (HZ0.out.step hb1)
    clear hb1
    go_wp2_with (first
      | (refine wpList_alloc_big rfl 47 rfl (phA z32 0) zeroPh ?_)
      | (refine wpList_store_big rfl 47 (.tmp 6) (.tmp 11) rfl w1.heap.size CA rfl rfl 47 _ (heap_alloc_new w1 _) 33 infoPh HSA.out (phA_size _ _ z32_length) HOA.out w1.heap.size w1 (belowa (Below.refl _ _) _) (Nat.le_refl _) ?_; intro w2 hg2 ho2 hz2 hb2; have HG2 := Lib.hid hg2; have HZ2 := Lib.hid (HZ1.out.step hb2); clear hg2 ho2 hz2 hb2)
      | (refine wpList_load_row rfl 47 (.tmp 6) rfl w1.heap.size rfl 47 CA (0, 0) _ HG2.out Try.underlying47 rfl HIA.out ?_))
    refine (HAP'.out (by trivial) hk1 hk2 _).mono ?_
    rintro e w3 ⟨rfl, hb3⟩
    have HZ3 := Lib.hid (HZ2.out.step hb3)
    clear hb3
    go_wp2_with fail
    refine (HGO'.out (by trivial) _).mono ?_
    rintro e w4 ⟨rfl, hb4⟩
    have hz4 := HZ3.out.step hb4
    have HR := Lib.hid hz4
    obtain ⟨z1, z2, z3, z4, z5, z6⟩ := hz4
    clear hb4
    go_wp2_with fail
    (try simp only [Exit.inBlock, Exit.then])
    obtain ⟨d0, d2, d3⟩ := HR.out.ret (.int .i64 X) (.int .i64 Y)
    refine bodyPost_ret (by simp [results, Try.results28, go_sem, d0, d2]; try rfl) rfl ?_
    exact ⟨rfl, d3⟩
  · rw [if_neg hok, if_neg hok, decide_eq_false hok]
    rcases (show sa = false ∨ (sa = true ∧ k < 0) ∨ (sa = true ∧ 0 ≤ k ∧ 3 < k) by cases sa <;> simp at hok ⊢ <;> omega) with rfl | ⟨rfl, hk⟩ | ⟨rfl, hk, hk2⟩
    all_goals
      clear hok
      go_enter Try.func28, Try.ntmps28
      go_wp2_with fail
      refine (HPR'.out _ (hva.step HZ0.out)).mono ?_
      rintro e w1 ⟨rfl, hb1⟩
      have HZ1 := Lib.hid (HZ0.out.step hb1)
      clear hb1
      go_wp2_with (first
        | (refine wpList_alloc_big rfl 47 rfl (phA z32 0) zeroPh ?_)
        | (refine wpList_store_big rfl 47 (.tmp 6) (.tmp 11) rfl w1.heap.size CA rfl rfl 47 _ (heap_alloc_new w1 _) 33 infoPh HSA.out (phA_size _ _ z32_length) HOA.out w1.heap.size w1 (belowa (Below.refl _ _) _) (Nat.le_refl _) ?_; intro w2 hg2 ho2 hz2 hb2; have HZ2 := Lib.hid (HZ1.out.step hb2); have ⟨z1, z2, z3, z4, z5, z6⟩ := HZ2.out; clear hg2 ho2 hz2 hb2))
      (try simp only [Exit.inBlock, Exit.then])
      obtain ⟨d0, d2, d3⟩ := HZ2.out.ret (.int .i64 0) (.int .i64 0)
      refine bodyPost_ret (by simp [results, Try.results28, go_sem, d0, d2]; try rfl) rfl ?_
      exact ⟨rfl, d3⟩
end Go.Proofs.Ytmckophclehkpaa
