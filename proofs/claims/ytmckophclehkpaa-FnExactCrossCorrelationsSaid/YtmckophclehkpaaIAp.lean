/- The program's AperiodicAt. -/
import Derived.Test.YtmckophclehkpaaPair
import Derived.Test.YtmckophclehkpaaAp
import Derived.Test.YtmckophclehkpaaCxG
namespace Go.Proofs.Ytmckophclehkpaa
open Go.RowKit

def apOk (a b : List Int) (u : Int) : Bool := pairOk a b && decide (-(a.length : Int) ≤ u ∧ u ≤ a.length)
def apF (f : Int → Int) (a b : List Int) (u : Int) : Int := if apOk a b u then apS f a b u else 0
theorem pairOk_parts {a b : List Int} (h : pairOk a b = true) : isSeq a = true ∧ isSeq b = true ∧ a.length = b.length := by
  simp only [pairOk, Bool.and_eq_true, decide_eq_true_eq] at h
  exact ⟨h.1.1, h.1.2, h.2⟩
/-- Two blocks of thirty-three cells behind a world. -/
theorem two_new (w : World) (A B : Obj) (w' : World) (h : w' = (w.alloc A).alloc B) : w'.heap[w.heap.size]? = some A ∧ w'.heap[w.heap.size + 1]? = some B ∧ w'.heap.size = w.heap.size + 2 ∧ Below w.heap.size w w' := by
  subst h
  exact ⟨heap_alloc2_old w _ _, heap_alloc2_new w _ _, by simp, belowa (belowa (Below.refl _ _) _) _⟩

set_option maxHeartbeats 400000 in
theorem isShift_any (u n : Int) (h1 : 0 ≤ n) (h2 : n ≤ 1048576) (w : World) : Calls Try.prog 36 #[.int .i64 u, .int .i64 n] w (Pure w (.bool (inB u (-n) n))) := by
  go_enter Try.func36, Try.ntmps36
  go_wp2
  all_goals
    go_ret
    exact ⟨ret_bool (by simp only [inB]; simp; omega), rfl⟩

set_option maxRecDepth 100000 in
set_option maxHeartbeats 2000000 in
theorem iaperiodicAt (va vb : Value) (a b : List Int) (u : Int) (w : World) (hva : IS w va a) (hvb : IS w vb b) (hla : a.length ≤ 1048576) (hlb : b.length ≤ 1048576) :
    Calls Try.prog 12 #[va, vb, .int .i64 u] w (Ret w (.tuple #[.agg #[.int .i64 (apF vx a b u), .int .i64 (apF vy a b u)], .bool (apOk a b u)])) := by
  have hz0 := ZG.start w 24
  have HPR := pairOf_walk va vb a b
  by_cases hp : pairOk a b = true
  · obtain ⟨ha, hb, hab⟩ := pairOk_parts hp
    have h32 := isSeq_len ha
    simp only [hp, if_true] at HPR
    have hcl := phC_len a
    rw [show sqz a = a by unfold sqz; rw [ha]; rfl] at hcl
    have hsa := phC_size a
    have hsb := phC_size b
    have hoa := phC_one a
    have hob := phC_one b
    have hia : (Try.prog.info? 47).map (·.size) = some (phC a).size := by rw [hsa]; exact infoPh
    have hib : (Try.prog.info? 47).map (·.size) = some (phC b).size := by rw [hsb]; exact infoPh
    have HAP : -(a.length : Int) ≤ u → u ≤ a.length → ∀ w, Calls Try.prog 38 #[.agg (phC a), .agg (phC b), .int .i64 u] w (Ret w (.complex .f32 (f32of (apS vx a b u)) (f32of (apS vy a b u)))) := fun h1 h2 w => by
      rw [phC_seq ha, phC_seq hb]; exact aperiodic_any a b u ha hb hab h1 h2 w
    have sX := apS_small vx vx_one a b u (by omega)
    have sY := apS_small vy vy_one a b u (by omega)
    have HGO := gaussOf_any (apS vx a b u) (apS vy a b u) (by omega) (by omega) (by omega) (by omega)
    obtain ⟨CA, hCA⟩ : ∃ C, C = phC a := ⟨_, rfl⟩
    obtain ⟨CB, hCB⟩ : ∃ C, C = phC b := ⟨_, rfl⟩
    rw [← hCA] at HPR hcl hsa hoa hia HAP
    rw [← hCB] at HPR hsb hob hib HAP
    obtain ⟨fa, hfa⟩ : ∃ f, f = f32of (apS vx a b u) := ⟨_, rfl⟩
    obtain ⟨fb, hfb⟩ : ∃ f, f = f32of (apS vy a b u) := ⟨_, rfl⟩
    rw [← hfa, ← hfb] at HAP HGO
    obtain ⟨X, hX⟩ : ∃ f, f = apS vx a b u := ⟨_, rfl⟩
    obtain ⟨Y, hY⟩ : ∃ f, f = apS vy a b u := ⟨_, rfl⟩
    rw [← hX, ← hY] at HGO
    obtain ⟨N, hN⟩ : ∃ n, n = a.length := ⟨_, rfl⟩
    have e1 : apF vx a b u = if -(N : Int) ≤ u ∧ u ≤ N then X else 0 := by unfold apF apOk; rw [hp, hX, hN]; by_cases h : -(a.length : Int) ≤ u ∧ u ≤ a.length <;> simp [h]
    have e2 : apF vy a b u = if -(N : Int) ≤ u ∧ u ≤ N then Y else 0 := by unfold apF apOk; rw [hp, hY, hN]; by_cases h : -(a.length : Int) ≤ u ∧ u ≤ a.length <;> simp [h]
    have e3 : apOk a b u = decide (-(N : Int) ≤ u ∧ u ≤ N) := by unfold apOk; rw [hp, hN]; simp
    rw [e1, e2, e3]
    rw [← hN] at hcl HAP h32
    have HPR' := Lib.hid HPR
    have HCL := Lib.hid hcl
    have HSA := Lib.hid hsa
    have HSB := Lib.hid hsb
    have HOA := Lib.hid hoa
    have HOB := Lib.hid hob
    have HIA := Lib.hid hia
    have HIB := Lib.hid hib
    have HAP' := Lib.hid HAP
    have HGO' := Lib.hid HGO
    have HZ0 := Lib.hid hz0
    have hN32 : N ≤ 32 := h32
    have HIS := isShift_any u (N : Int) (by omega) (by omega)
    clear HPR hcl hsa hsb hoa hob hia hib HAP HGO hCA hCB hfa hfb hX hY hN e1 e2 e3 sX sY hz0 ha hb hab h32 hp
    rcases (show u < -(N : Int) ∨ (N : Int) < u ∨ (-(N : Int) ≤ u ∧ u ≤ N) by omega) with hc | hc | ⟨hc, hc2⟩
    rotate_left 2
    rw [if_pos ⟨hc, hc2⟩, if_pos ⟨hc, hc2⟩, decide_eq_true ⟨hc, hc2⟩]
    rw [show inB u (-(N : Int)) N = true by simp [inB]; omega] at HIS
    rotate_left 1
    rw [if_neg (show ¬ (-(N : Int) ≤ u ∧ u ≤ N) by omega), if_neg (show ¬ (-(N : Int) ≤ u ∧ u ≤ N) by omega), decide_eq_false (show ¬ (-(N : Int) ≤ u ∧ u ≤ N) by omega)]
    rw [show inB u (-(N : Int)) N = false by simp [inB]; omega] at HIS
    rotate_left 1
    rw [if_neg (show ¬ (-(N : Int) ≤ u ∧ u ≤ N) by omega), if_neg (show ¬ (-(N : Int) ≤ u ∧ u ≤ N) by omega), decide_eq_false (show ¬ (-(N : Int) ≤ u ∧ u ≤ N) by omega)]
    rw [show inB u (-(N : Int)) N = false by simp [inB]; omega] at HIS
    rotate_left 1
    all_goals
      have HIS' := Lib.hid HIS
      clear HIS
      go_enter Try.func12, Try.ntmps12
      go_wp2_with fail
      refine (HPR'.out _ (hva.step HZ0.out) (hvb.step HZ0.out) hla hlb).mono ?_
      rintro e w1 ⟨rfl, hb1⟩
      have hz1 := HZ0.out.step hb1
      have HZ1 := Lib.hid hz1
      clear hz1 hb1
      go_wp2_with (first
        | (refine wpList_alloc_big rfl 47 rfl (phA z32 0) zeroPh ?_; simp only [World.size_alloc, Act.put, List.setIfInBounds_toArray, List.set_cons_zero, List.set_cons_succ])
        | (refine wpList_store_big rfl 47 (.tmp 8) (.tmp 15) rfl w1.heap.size CA rfl rfl 47 _ (heap_alloc2_old w1 _ _) 33 infoPh HSA.out (phA_size _ _ z32_length) HOA.out w1.heap.size w1 (belowa (belowa (Below.refl _ _) _) _) (Nat.le_refl _) ?_; intro w2 hg2 ho2 hz2 hb2; have HG2 := Lib.hid hg2; have HH2 := Lib.hid ((ho2 (w1.heap.size + 1) (by omega)).trans (heap_alloc2_new w1 _ _)); have HB2 := Lib.hid hb2; clear hg2 ho2 hz2 hb2)
        | (refine wpList_store_big rfl 47 (.tmp 9) (.tmp 16) rfl (w1.heap.size + 1) CB rfl rfl 47 _ HH2.out 33 infoPh HSB.out (phA_size _ _ z32_length) HOB.out w1.heap.size w1 HB2.out (by omega) ?_; intro w3 hg3 ho3 hz3 hb3; have h38 := (ho3 w1.heap.size (by omega)).trans HG2.out; have c8 := (cell_of_row w3 w1.heap.size 32 _ _ _ h38).trans HCL.out; have H38 := Lib.hid h38; have H39 := Lib.hid hg3; have HZ3 := Lib.hid (HZ1.out.step hb3); clear hg3 ho3 hz3 hb3 h38))
      refine (HIS'.out _).mono ?_
      rintro e w4 ⟨rfl, rfl⟩
    · go_wp2_with (first
        | (refine wpList_load_row rfl 47 (.tmp 8) rfl w1.heap.size rfl 47 CA (0, 0) _ H38.out Try.underlying47 rfl HIA.out ?_)
        | (refine wpList_load_row rfl 47 (.tmp 9) rfl (w1.heap.size + 1) rfl 47 CB (0, 0) _ H39.out Try.underlying47 rfl HIB.out ?_))
      refine (HAP'.out hc hc2 _).mono ?_
      rintro e w5 ⟨rfl, hb5⟩
      have HZ5 := Lib.hid (HZ3.out.step hb5)
      clear hb5
      go_wp2_with fail
      refine (HGO'.out _).mono ?_
      rintro e w6 ⟨rfl, hb6⟩
      have hz6 := HZ5.out.step hb6
      have HR := Lib.hid hz6
      obtain ⟨z1, z2, z3, z4, z5, z6⟩ := hz6
      clear hb6
      go_wp2_with fail
      (try simp only [Exit.inBlock, Exit.then])
      obtain ⟨d0, d2, d3⟩ := HR.out.ret (.int .i64 X) (.int .i64 Y)
      refine bodyPost_ret (by simp [results, Try.results12, go_sem, d0, d2]; try rfl) rfl ?_
      exact ⟨rfl, d3⟩
    all_goals
      have HR := HZ3
      obtain ⟨z1, z2, z3, z4, z5, z6⟩ := HZ3.out
      go_wp2_with fail
      (try simp only [Exit.inBlock, Exit.then])
      obtain ⟨d0, d2, d3⟩ := HR.out.ret (.int .i64 0) (.int .i64 0)
      refine bodyPost_ret (by simp [results, Try.results12, go_sem, d0, d2]; try rfl) rfl ?_
      exact ⟨rfl, d3⟩
  · have hp2 : pairOk a b = false := by simpa using hp
    simp only [hp2] at HPR
    have e1 : apF vx a b u = 0 := by unfold apF apOk; rw [hp2]; rfl
    have e2 : apF vy a b u = 0 := by unfold apF apOk; rw [hp2]; rfl
    have e3 : apOk a b u = false := by unfold apOk; rw [hp2]; rfl
    rw [e1, e2, e3]
    have HPR' := Lib.hid HPR
    have HZ0 := Lib.hid hz0
    clear e1 e2 e3 hp hp2 HPR hz0
    go_enter Try.func12, Try.ntmps12
    go_wp2_with fail
    refine (HPR'.out _ (hva.step HZ0.out) (hvb.step HZ0.out) hla hlb).mono ?_
    rintro e w1 ⟨rfl, hb1⟩
    have hz1 := HZ0.out.step hb1
    have HZ1 := Lib.hid hz1
    clear hz1 hb1
    go_wp2_with (first
      | (refine wpList_alloc_big rfl 47 rfl (phA z32 0) zeroPh ?_; simp only [World.size_alloc, Act.put, List.setIfInBounds_toArray, List.set_cons_zero, List.set_cons_succ])
      | (refine wpList_store_big rfl 47 (.tmp 8) (.tmp 15) rfl w1.heap.size (phA z32 0) rfl rfl 47 _ (heap_alloc2_old w1 _ _) 33 infoPh (phA_size _ _ z32_length) (phA_size _ _ z32_length) (phA_one _ _) w1.heap.size w1 (belowa (belowa (Below.refl _ _) _) _) (Nat.le_refl _) ?_; intro w2 hg2 ho2 hz2 hb2; have HG2 := Lib.hid hg2; have HH2 := Lib.hid ((ho2 (w1.heap.size + 1) (by omega)).trans (heap_alloc2_new w1 _ _)); have HB2 := Lib.hid hb2; clear hg2 ho2 hz2 hb2)
      | (refine wpList_store_big rfl 47 (.tmp 9) (.tmp 16) rfl (w1.heap.size + 1) (phA z32 0) rfl rfl 47 _ HH2.out 33 infoPh (phA_size _ _ z32_length) (phA_size _ _ z32_length) (phA_one _ _) w1.heap.size w1 HB2.out (by omega) ?_; intro w3 hg3 ho3 hz3 hb3; have HZ3 := Lib.hid (HZ1.out.step hb3); have ⟨z1, z2, z3, z4, z5, z6⟩ := HZ3.out; clear hg3 ho3 hz3 hb3))
    (try simp only [Exit.inBlock, Exit.then])
    obtain ⟨d0, d2, d3⟩ := HZ3.out.ret (.int .i64 0) (.int .i64 0)
    refine bodyPost_ret (by simp [results, Try.results12, go_sem, d0, d2]; try rfl) rfl ?_
    exact ⟨rfl, d3⟩
end Go.Proofs.Ytmckophclehkpaa
