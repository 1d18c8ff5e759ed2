/- The program's CrossCorrelations. -/
import Derived.Test.YtmckophclehkpaaICorr
import Derived.Test.YtmckophclehkpaaCrL
namespace Go.Proofs.Ytmckophclehkpaa
open Go.RowKit

set_option maxRecDepth 100000 in
set_option maxHeartbeats 2000000 in
theorem icross (va vb : Value) (a b : List Int) (w : World) (hva : IS w va a) (hvb : IS w vb b) (hla : a.length ≤ 1048576) (hlb : b.length ≤ 1048576) :
    Calls Try.prog 26 #[va, vb] w (MakesGB w (crossL a b) (crossOk a b)) := by
  have HPR := pairOf_walk va vb a b w hva hvb hla hlb
  by_cases hp : pairOk a b = true
  · obtain ⟨ha, hb, hab⟩ := pairOk_parts hp
    have h32 := isSeq_len ha
    simp only [hp, if_true] at HPR
    have hcl := phC_len a
    rw [show sqz a = a by unfold sqz; rw [ha]; rfl] at hcl
    have hsa := phC_size a
    have hsb := phC_size b
    have hoa := phC_one a
    have hob := phC_one b
    have hia : (Try.prog.info? 47).map (·.size) = some (phC a).size := by rw [hsa]; exact infoPh
    have hib : (Try.prog.info? 47).map (·.size) = some (phC b).size := by rw [hsb]; exact infoPh
    by_cases hn : 1 ≤ a.length
    · have hok : crossOk a b = true := by unfold crossOk; rw [hp, decide_eq_true hn]; rfl
      have hl : crossL a b = genG (2 * a.length - 1) (fun i => apS vx a b (1 - (a.length : Int) + (i : Int))) (fun i => apS vy a b (1 - (a.length : Int) + (i : Int))) := by unfold crossL; rw [hok]; rfl
      have HC : ∀ F0 L : Int, F0 = 1 - (a.length : Int) → L = (a.length : Int) - 1 → ∀ w, Calls Try.prog 44 #[.agg (phC a), .agg (phC b), .int .i64 F0, .int .i64 L, .func (.func 38) #[] #[]] w (MakesG w (crossL a b)) := fun F0 L e1 e2 w => by
        subst e1 e2
        rw [hl]
        exact corr_ap (phC a) (phC b) hsa hsb _ _ (2 * a.length - 1) (by omega) (by omega) (by omega) (by omega) _ _ (fun k => apS_small vx vx_one a b _ (by omega)) (fun k => apS_small vy vy_one a b _ (by omega))
          (fun k hk w => by rw [phC_seq ha, phC_seq hb]; exact aperiodic_any a b _ ha hb hab (by omega) (by omega) w) w
      rw [hok]
      obtain ⟨CA, hCA⟩ : ∃ C, C = phC a := ⟨_, rfl⟩
      obtain ⟨CB, hCB⟩ : ∃ C, C = phC b := ⟨_, rfl⟩
      rw [← hCA] at HPR hcl hsa hoa hia HC
      rw [← hCB] at HPR hsb hob hib HC
      obtain ⟨R, hR⟩ : ∃ R, R = crossL a b := ⟨_, rfl⟩
      rw [← hR] at HC ⊢
      obtain ⟨N, hN⟩ : ∃ n, n = a.length := ⟨_, rfl⟩
      rw [← hN] at hcl HC h32 hn
      have HPR' := Lib.hid HPR
      have HC' := Lib.hid HC
      have HCL := Lib.hid hcl
      have HSA := Lib.hid hsa
      have HSB := Lib.hid hsb
      have HOA := Lib.hid hoa
      have HOB := Lib.hid hob
      have HIA := Lib.hid hia
      have HIB := Lib.hid hib
      have hn1 : (1 : Int) ≤ (N : Int) := by omega
      clear HPR HC hcl hsa hsb hoa hob hia hib hCA hCB hR hN hl hok ha hb hab hp hva hvb
      go_enter Try.func26, Try.ntmps26
      go_wp2_with fail
      refine (HPR'.out).mono ?_
      rintro e w1 ⟨rfl, hb1⟩
      have HB1 := Lib.hid hb1
      clear hb1
      go_wp2_with (first
        | (refine wpList_alloc_big rfl 47 rfl (phA z32 0) zeroPh ?_; simp only [World.size_alloc, Act.put, List.setIfInBounds_toArray, List.set_cons_zero, List.set_cons_succ])
        | (refine wpList_store_big rfl 47 (.tmp 6) (.tmp 13) rfl w1.heap.size CA rfl rfl 47 _ (heap_alloc2_old w1 _ _) 33 infoPh HSA.out (phA_size _ _ z32_length) HOA.out w1.heap.size w1 (belowa (belowa (Below.refl _ _) _) _) (Nat.le_refl _) ?_; intro w2 hg2 ho2 hz2 hb2; have HG2 := Lib.hid hg2; have HH2 := Lib.hid ((ho2 (w1.heap.size + 1) (by omega)).trans (heap_alloc2_new w1 _ _)); have HB2 := Lib.hid hb2; clear hg2 ho2 hz2 hb2)
        | (refine wpList_store_big rfl 47 (.tmp 7) (.tmp 14) rfl (w1.heap.size + 1) CB rfl rfl 47 _ HH2.out 33 infoPh HSB.out (phA_size _ _ z32_length) HOB.out w1.heap.size w1 HB2.out (by omega) ?_; intro w3 hg3 ho3 hz3 hb3; have h38 := (ho3 w1.heap.size (by omega)).trans HG2.out; have c8 := (cell_of_row w3 w1.heap.size 32 _ _ _ h38).trans HCL.out; have H38 := Lib.hid h38; have H39 := Lib.hid hg3; have HZ3 := Lib.hid (joins HB1.out hb3); clear hg3 ho3 hz3 hb3 h38)
        | (refine wpList_load_row rfl 47 (.tmp 6) rfl w1.heap.size rfl 47 CA (0, 0) _ H38.out Try.underlying47 rfl HIA.out ?_)
        | (refine wpList_load_row rfl 47 (.tmp 7) rfl (w1.heap.size + 1) rfl 47 CB (0, 0) _ H39.out Try.underlying47 rfl HIB.out ?_))
      refine (HC'.out _ _ (by omega) (by omega) _).mono ?_
      rintro e w4 ⟨v4, rfl, ho4, hb4⟩
      have HO4 := Lib.hid (ho4.mono HZ3.out.size)
      have HB4 := Lib.hid (joins HZ3.out hb4)
      clear ho4 hb4
      go_wp2_with fail
      go_returns
      exact ⟨_, rfl, HO4.out, HB4.out⟩
    · have hok : crossOk a b = false := by unfold crossOk; rw [decide_eq_false hn, Bool.and_false]
      have hl : crossL a b = [] := by unfold crossL; rw [hok]; rfl
      rw [hok, hl]
      have h0 : (a.length : Int) = 0 := by omega
      rw [h0] at hcl
      obtain ⟨CA, hCA⟩ : ∃ C, C = phC a := ⟨_, rfl⟩
      obtain ⟨CB, hCB⟩ : ∃ C, C = phC b := ⟨_, rfl⟩
      rw [← hCA] at HPR hcl hsa hoa hia
      rw [← hCB] at HPR hsb hob hib
      have HPR' := Lib.hid HPR
      have HCL := Lib.hid hcl
      have HSA := Lib.hid hsa
      have HSB := Lib.hid hsb
      have HOA := Lib.hid hoa
      have HOB := Lib.hid hob
      have HIA := Lib.hid hia
      have HIB := Lib.hid hib
      clear HPR hcl hsa hsb hoa hob hia hib hCA hCB hl hok ha hb hab hp hva hvb h0 hn h32
      go_enter Try.func26, Try.ntmps26
      go_wp2_with fail
      refine (HPR'.out).mono ?_
      rintro e w1 ⟨rfl, hb1⟩
      have HB1 := Lib.hid hb1
      clear hb1
      go_wp2_with (first
        | (refine wpList_alloc_big rfl 47 rfl (phA z32 0) zeroPh ?_; simp only [World.size_alloc, Act.put, List.setIfInBounds_toArray, List.set_cons_zero, List.set_cons_succ])
        | (refine wpList_store_big rfl 47 (.tmp 6) (.tmp 13) rfl w1.heap.size CA rfl rfl 47 _ (heap_alloc2_old w1 _ _) 33 infoPh HSA.out (phA_size _ _ z32_length) HOA.out w1.heap.size w1 (belowa (belowa (Below.refl _ _) _) _) (Nat.le_refl _) ?_; intro w2 hg2 ho2 hz2 hb2; have HG2 := Lib.hid hg2; have HH2 := Lib.hid ((ho2 (w1.heap.size + 1) (by omega)).trans (heap_alloc2_new w1 _ _)); have HB2 := Lib.hid hb2; clear hg2 ho2 hz2 hb2)
        | (refine wpList_store_big rfl 47 (.tmp 7) (.tmp 14) rfl (w1.heap.size + 1) CB rfl rfl 47 _ HH2.out 33 infoPh HSB.out (phA_size _ _ z32_length) HOB.out w1.heap.size w1 HB2.out (by omega) ?_; intro w3 hg3 ho3 hz3 hb3; have h38 := (ho3 w1.heap.size (by omega)).trans HG2.out; have c8 := (cell_of_row w3 w1.heap.size 32 _ _ _ h38).trans HCL.out; have H38 := Lib.hid h38; have H39 := Lib.hid hg3; have HZ3 := Lib.hid (joins HB1.out hb3); clear hg3 ho3 hz3 hb3 h38)
        | (refine wpList_load_row rfl 47 (.tmp 6) rfl w1.heap.size rfl 47 CA (0, 0) _ H38.out Try.underlying47 rfl HIA.out ?_)
        | (refine wpList_load_row rfl 47 (.tmp 7) rfl (w1.heap.size + 1) rfl 47 CB (0, 0) _ H39.out Try.underlying47 rfl HIB.out ?_))
      go_returns
      exact ⟨_, rfl, OwnG.nil _ _, HZ3.out⟩
  · have hp2 : pairOk a b = false := by simpa using hp
    simp only [hp2] at HPR
    have hok : crossOk a b = false := by unfold crossOk; rw [hp2]; rfl
    have hl : crossL a b = [] := by unfold crossL; rw [hok]; rfl
    rw [hok, hl]
    have hc0 := phA_len z32 0 z32_length
    have HPR' := Lib.hid HPR
    have HCL := Lib.hid hc0
    clear HPR hok hl hva hvb hp hp2 hc0
    go_enter Try.func26, Try.ntmps26
    go_wp2_with fail
    refine (HPR'.out).mono ?_
    rintro e w1 ⟨rfl, hb1⟩
    have HB1 := Lib.hid hb1
    clear hb1
    go_wp2_with (first
      | (refine wpList_alloc_big rfl 47 rfl (phA z32 0) zeroPh ?_; simp only [World.size_alloc, Act.put, List.setIfInBounds_toArray, List.set_cons_zero, List.set_cons_succ])
      | (refine wpList_store_big rfl 47 (.tmp 6) (.tmp 13) rfl w1.heap.size (phA z32 0) rfl rfl 47 _ (heap_alloc2_old w1 _ _) 33 infoPh (phA_size _ _ z32_length) (phA_size _ _ z32_length) (phA_one _ _) w1.heap.size w1 (belowa (belowa (Below.refl _ _) _) _) (Nat.le_refl _) ?_; intro w2 hg2 ho2 hz2 hb2; have HH2 := Lib.hid ((ho2 (w1.heap.size + 1) (by omega)).trans (heap_alloc2_new w1 _ _)); have HB2 := Lib.hid hb2; clear hg2 ho2 hz2 hb2)
      | (refine wpList_store_big rfl 47 (.tmp 7) (.tmp 14) rfl (w1.heap.size + 1) (phA z32 0) rfl rfl 47 _ HH2.out 33 infoPh (phA_size _ _ z32_length) (phA_size _ _ z32_length) (phA_one _ _) w1.heap.size w1 HB2.out (by omega) ?_; intro w3 hg3 ho3 hz3 hb3; have HZ3 := Lib.hid (joins HB1.out hb3); clear hg3 ho3 hz3 hb3))
    go_returns
    exact ⟨_, rfl, OwnG.nil _ _, HZ3.out⟩
end Go.Proofs.Ytmckophclehkpaa
