/- The program's isFit and made of sequences of standard form; StandardPair. -/
import Derived.Test.YtcpeikkkegpdhabISt
import Derived.Test.YtcpeikkkegpdhabILists
import Derived.Test.YtcpeikkkegpdhabSStP
namespace Go.Proofs.Ytcpeikkkegpdhab
set_option maxRecDepth 100000
open Go.RowKit

theorem stC_size (va vb : Value) (c : Int) : (stC va vb c).size = 3 := rfl
theorem stC_one {w : World} {va vb : Value} {o ph : List Int} (c : Int) (hva : IS w va o) (hvb : IS w vb ph) : (stC va vb c).all (·.oneCell') = true := by
  rcases hva with ⟨rfl, a, cap, rfl⟩ | ⟨_, b, off, cap, rfl, _⟩ <;> rcases hvb with ⟨rfl, a, cap, rfl⟩ | ⟨_, b, off, cap, rfl, _⟩ <;> simp [stC, Value.oneCell']
theorem stFit_ok (o ph : List Int) (c : Int) : (orOk o && isSeq ph && decide (ph.length = o.length) && inB c 0 3) = stOk o ph c := by
  unfold stOk isSeq
  cases h : orOk o with
  | false => rfl
  | true =>
    have := (orOk_parts h).1.2
    by_cases hl : ph.length = o.length
    · rw [decide_eq_true hl, decide_eq_true (show ph.length ≤ 32 by omega)]
      simp
    · rw [decide_eq_false hl]
      simp
theorem zeroStd (w : World) : (zeroValue 35).run Try.prog w = .ok (.agg (stC (.slice none 0 0) (.slice none 0 0) 0)) w := run_zero_is (by kernel_rfl) w
set_option maxHeartbeats 4000000 in
theorem isFit_standard (va vb : Value) (o ph : List Int) (c : Int) (w0 w : World) (hbw : Below w0.heap.size w0 w) (hva0 : IS w0 va o) (hvb0 : IS w0 vb ph) (hla : o.length ≤ 1048576) (hlb : ph.length ≤ 1048576) :
    Calls Try.prog 17 #[.iface 35 (.agg (stC va vb c))] w (Ret w (.bool (stOk o ph c))) := by
  have hva := hva0.below hbw
  have hvb := hvb0.below hbw
  rw [← stFit_ok]
  have OK := Lib.hid (stC_one c hva hvb)
  have HOR := Lib.hid (fun w' (h : Below w.heap.size w w') => isOrder_any va o w' (hva.below h) hla)
  have HSQ := Lib.hid (fun w' (h : Below w.heap.size w w') => isSequence_any vb ph w' (hvb.below h) hlb)
  have HPH := Lib.hid (isPhase_any c)
  obtain ⟨a, cap, hveq⟩ : ∃ a cap, va = .slice a o.length cap := by rcases hva with ⟨rfl, a, cap, rfl⟩ | ⟨_, b, off, cap, rfl, _⟩ <;> exact ⟨_, _, rfl⟩
  obtain ⟨a', cap', hveq'⟩ : ∃ a cap, vb = .slice a ph.length cap := by rcases hvb with ⟨rfl, a, cap, rfl⟩ | ⟨_, b, off, cap, rfl, _⟩ <;> exact ⟨_, _, rfl⟩
  subst hveq hveq'
  obtain ⟨M, hM⟩ : ∃ M, M = o.length := ⟨_, rfl⟩
  obtain ⟨L, hL⟩ : ∃ M, M = ph.length := ⟨_, rfl⟩
  rw [← hM] at OK HOR hla ⊢
  rw [← hL] at OK HSQ hlb ⊢
  have SK := Lib.hid (stC_size (.slice a M cap) (.slice a' L cap') c)
  have N0 := Lib.hid (show (stC (.slice a M cap) (.slice a' L cap') c)[0]? = some (.slice a M cap) from rfl)
  have N1 := Lib.hid (show (stC (.slice a M cap) (.slice a' L cap') c)[1]? = some (.slice a' L cap') from rfl)
  have N2 := Lib.hid (show (stC (.slice a M cap) (.slice a' L cap') c)[2]? = some (.int .i64 c) from rfl)
  have SZ := Lib.hid (stC_size (.slice none 0 0) (.slice none 0 0) 0)
  have ZZ := Lib.hid zeroStd
  obtain ⟨Z, hZ⟩ : ∃ Z, Z = stC (.slice none 0 0) (.slice none 0 0) 0 := ⟨_, rfl⟩
  rw [← hZ] at SZ ZZ
  obtain ⟨J, hJ⟩ : ∃ Z, Z = stC (.slice a M cap) (.slice a' L cap') c := ⟨_, rfl⟩
  rw [← hJ] at SK OK N0 N1 N2 ⊢
  obtain ⟨b1, hb1⟩ : ∃ b, b = orOk o := ⟨_, rfl⟩
  obtain ⟨b2, hb2⟩ : ∃ b, b = isSeq ph := ⟨_, rfl⟩
  obtain ⟨b4, hb4⟩ : ∃ b, b = inB c 0 3 := ⟨_, rfl⟩
  rw [← hb1] at HOR ⊢
  rw [← hb2] at HSQ ⊢
  rw [← hb4] at HPH ⊢
  clear hva hvb hM hL hZ hJ hb1 hb2 hb4 hva0 hvb0 hbw
  obtain ⟨z_joining, hz_joining⟩ := zero_joining
  have as_joining := fun w => run_assert_no (P := Try.prog) w (.agg J) (.agg z_joining) 35 39 50 _ Try.underlying50 (by decide) hz_joining
  clear hz_joining
  obtain ⟨z_weaving, hz_weaving⟩ := zero_weaving
  have as_weaving := fun w => run_assert_no (P := Try.prog) w (.agg J) (.agg z_weaving) 35 39 54 _ Try.underlying54 (by decide) hz_weaving
  clear hz_weaving
  obtain ⟨z_mating, hz_mating⟩ := zero_mating
  have as_mating := fun w => run_assert_no (P := Try.prog) w (.agg J) (.agg z_mating) 35 39 55 _ Try.underlying55 (by decide) hz_mating
  clear hz_mating
  obtain ⟨z_climbing, hz_climbing⟩ := zero_climbing
  have as_climbing := fun w => run_assert_no (P := Try.prog) w (.agg J) (.agg z_climbing) 35 39 57 _ Try.underlying57 (by decide) hz_climbing
  clear hz_climbing
  obtain ⟨z_joiningMates, hz_joiningMates⟩ := zero_joiningMates
  have as_joiningMates := fun w => run_assert_no (P := Try.prog) w (.agg J) (.agg z_joiningMates) 35 39 59 _ Try.underlying59 (by decide) hz_joiningMates
  clear hz_joiningMates
  have as_standard := fun w => run_assert_yes (P := Try.prog) w (.agg J) 39 35 _ Try.underlying35
  cases b1 with
  | false =>
    have B0 := Lib.hid (Below.refl w.heap.size w)
    go_enter Try.func17, Try.ntmps17
    go_wp2_with (first
      | ((with_reducible refine at_op (d := some 8) (Op.alloc 35) ?_); refine wpList_alloc_row rfl 35 rfl Z (fun w => ZZ.out w) ?_; intro w1 hr hb hz; have R1_j := Lib.hid hr; have B1 := Lib.hid (joins B0.out hb); have L1_j := Lib.hid (show w.heap.size ≤ w.heap.size from B0.out.size); clear hr hb hz)
      | ((with_reducible refine at_op (Op.store 35 (.tmp 8) (.tmp 54)) ?_); refine wpList_put_row rfl 35 (.tmp 8) (.tmp 54) rfl (w.heap.size) J rfl rfl 35 Z R1_j.out 3 infoStd SK.out SZ.out OK.out w.heap.size w B1.out L1_j.out ?_; intro w2 hr hs hb; have R2_j := Lib.hid hr; have B2 := Lib.hid hb; have c0 := rowC hr N0.out; clear hr hs hb))
    refine (HOR.out _ B2.out).mono ?_
    rintro e w3 ⟨rfl, hb⟩
    have R3_j := Lib.hid (rowB R2_j.out hb)
    have B3 := Lib.hid (joins B2.out hb)
    clear hb
    go_wp2_with fail
    go_returns
    exact ⟨by simp [*], B3.out⟩
  | true =>
    cases b2 with
    | false =>
      have B0 := Lib.hid (Below.refl w.heap.size w)
      go_enter Try.func17, Try.ntmps17
      go_wp2_with (first
        | ((with_reducible refine at_op (d := some 8) (Op.alloc 35) ?_); refine wpList_alloc_row rfl 35 rfl Z (fun w => ZZ.out w) ?_; intro w1 hr hb hz; have R1_j := Lib.hid hr; have B1 := Lib.hid (joins B0.out hb); have L1_j := Lib.hid (show w.heap.size ≤ w.heap.size from B0.out.size); clear hr hb hz)
        | ((with_reducible refine at_op (Op.store 35 (.tmp 8) (.tmp 54)) ?_); refine wpList_put_row rfl 35 (.tmp 8) (.tmp 54) rfl (w.heap.size) J rfl rfl 35 Z R1_j.out 3 infoStd SK.out SZ.out OK.out w.heap.size w B1.out L1_j.out ?_; intro w2 hr hs hb; have R2_j := Lib.hid hr; have B2 := Lib.hid hb; have c0 := rowC hr N0.out; clear hr hs hb))
      refine (HOR.out _ B2.out).mono ?_
      rintro e w3 ⟨rfl, hb⟩
      have R3_j := Lib.hid (rowB R2_j.out hb)
      have B3 := Lib.hid (joins B2.out hb)
      clear hb
      have c1 := rowC R3_j.out N1.out
      go_wp2_with fail
      refine (HSQ.out _ B3.out).mono ?_
      rintro e w4 ⟨rfl, hb⟩
      have R4_j := Lib.hid (rowB R3_j.out hb)
      have B4 := Lib.hid (joins B3.out hb)
      clear hb
      go_wp2_with fail
      go_returns
      exact ⟨by simp [*], B4.out⟩
    | true =>
      by_cases hLM : L = M
      · subst hLM
        have B0 := Lib.hid (Below.refl w.heap.size w)
        go_enter Try.func17, Try.ntmps17
        go_wp2_with (first
          | ((with_reducible refine at_op (d := some 8) (Op.alloc 35) ?_); refine wpList_alloc_row rfl 35 rfl Z (fun w => ZZ.out w) ?_; intro w1 hr hb hz; have R1_j := Lib.hid hr; have B1 := Lib.hid (joins B0.out hb); have L1_j := Lib.hid (show w.heap.size ≤ w.heap.size from B0.out.size); clear hr hb hz)
          | ((with_reducible refine at_op (Op.store 35 (.tmp 8) (.tmp 54)) ?_); refine wpList_put_row rfl 35 (.tmp 8) (.tmp 54) rfl (w.heap.size) J rfl rfl 35 Z R1_j.out 3 infoStd SK.out SZ.out OK.out w.heap.size w B1.out L1_j.out ?_; intro w2 hr hs hb; have R2_j := Lib.hid hr; have B2 := Lib.hid hb; have c0 := rowC hr N0.out; clear hr hs hb))
        refine (HOR.out _ B2.out).mono ?_
        rintro e w3 ⟨rfl, hb⟩
        have R3_j := Lib.hid (rowB R2_j.out hb)
        have B3 := Lib.hid (joins B2.out hb)
        clear hb
        have c1 := rowC R3_j.out N1.out
        go_wp2_with fail
        refine (HSQ.out _ B3.out).mono ?_
        rintro e w4 ⟨rfl, hb⟩
        have R4_j := Lib.hid (rowB R3_j.out hb)
        have B4 := Lib.hid (joins B3.out hb)
        clear hb
        have d0 := rowC R4_j.out N0.out
        have d1 := rowC R4_j.out N1.out
        have d2 := rowC R4_j.out N2.out
        go_wp2_with fail
        refine (HPH.out _).mono ?_
        rintro e w' ⟨rfl, rfl⟩
        go_wp2_with fail
        go_returns
        exact ⟨by simp, B4.out⟩
      · have hne : ¬ ((L : Int) = (M : Int)) := by omega
        have B0 := Lib.hid (Below.refl w.heap.size w)
        go_enter Try.func17, Try.ntmps17
        go_wp2_with (first
          | ((with_reducible refine at_op (d := some 8) (Op.alloc 35) ?_); refine wpList_alloc_row rfl 35 rfl Z (fun w => ZZ.out w) ?_; intro w1 hr hb hz; have R1_j := Lib.hid hr; have B1 := Lib.hid (joins B0.out hb); have L1_j := Lib.hid (show w.heap.size ≤ w.heap.size from B0.out.size); clear hr hb hz)
          | ((with_reducible refine at_op (Op.store 35 (.tmp 8) (.tmp 54)) ?_); refine wpList_put_row rfl 35 (.tmp 8) (.tmp 54) rfl (w.heap.size) J rfl rfl 35 Z R1_j.out 3 infoStd SK.out SZ.out OK.out w.heap.size w B1.out L1_j.out ?_; intro w2 hr hs hb; have R2_j := Lib.hid hr; have B2 := Lib.hid hb; have c0 := rowC hr N0.out; clear hr hs hb))
        refine (HOR.out _ B2.out).mono ?_
        rintro e w3 ⟨rfl, hb⟩
        have R3_j := Lib.hid (rowB R2_j.out hb)
        have B3 := Lib.hid (joins B2.out hb)
        clear hb
        have c1 := rowC R3_j.out N1.out
        go_wp2_with fail
        refine (HSQ.out _ B3.out).mono ?_
        rintro e w4 ⟨rfl, hb⟩
        have R4_j := Lib.hid (rowB R3_j.out hb)
        have B4 := Lib.hid (joins B3.out hb)
        clear hb
        have d0 := rowC R4_j.out N0.out
        have d1 := rowC R4_j.out N1.out
        go_wp2_with fail
        go_returns
        exact ⟨by simp [hLM], B4.out⟩

theorem set_left {A B : Array Value} {k : Nat} (v : Value) (h : k < A.size) : (A ++ B).setIfInBounds k v = A.setIfInBounds k v ++ B := by
  apply Array.ext_getElem?
  intro j
  by_cases h1 : j < A.size
  · rw [Array.getElem?_append_left (by simpa using h1), Array.getElem?_setIfInBounds, Array.getElem?_setIfInBounds, Array.getElem?_append_left h1]
    by_cases e : k = j
    · subst e; rw [if_pos rfl, if_pos rfl, if_pos (by rw [Array.size_append]; omega), if_pos h]
    · simp [e]
  · rw [Array.getElem?_append_right (by simp; omega), Array.getElem?_setIfInBounds, if_neg (by omega), Array.getElem?_append_right (by omega)]
    simp
theorem set_right {A B : Array Value} {k m : Nat} (v : Value) (hm : A.size = m) : (A ++ B).setIfInBounds (m + k) v = A ++ B.setIfInBounds k v := by
  subst hm
  apply Array.ext_getElem?
  intro j
  by_cases h1 : j < A.size
  · rw [Array.getElem?_append_left h1, Array.getElem?_setIfInBounds, if_neg (by omega), Array.getElem?_append_left h1]
  · rw [Array.getElem?_append_right (by omega), Array.getElem?_setIfInBounds, Array.getElem?_setIfInBounds, Array.getElem?_append_right (by omega)]
    simp only [Array.size_append]
    by_cases e : k = j - A.size
    · rw [if_pos (by omega), if_pos e]
      by_cases h2 : j < A.size + B.size
      · rw [if_pos (by omega), if_pos (by omega)]
      · rw [if_neg (by omega), if_neg (by omega)]
    · rw [if_neg (by omega), if_neg e]
/-- A pair whose first k phases are laid. -/
def laid (N : Nat) (f g : Nat → Int) (i k : Nat) : Array Value := phA (padL (gen i f)) N ++ phA (padL (gen k g)) N
theorem laid_size {N : Nat} {f g : Nat → Int} {i k : Nat} (hi : i ≤ 32) (hk : k ≤ 32) : (laid N f g i k).size = 66 := by
  unfold laid
  rw [Array.size_append, phA_size _ _ (padL_length (by rw [gen_length]; exact hi)), phA_size _ _ (padL_length (by rw [gen_length]; exact hk))]
theorem laid_one (N : Nat) (f g : Nat → Int) (i k : Nat) : (laid N f g i k).all (·.oneCell') = true := one_append (phA_one _ _) (phA_one _ _)
theorem laid_start (N : Nat) (f g : Nat → Int) : phA z32 N ++ phA z32 N = laid N f g 0 0 := rfl
theorem laid_fst {N : Nat} {f g : Nat → Int} {i k : Nat} (hi : i < 32) : (laid N f g i k).setIfInBounds i (.int .i64 (f i)) = laid N f g (i + 1) k := by
  have hl : (padL (gen i f)).length = 32 := padL_length (by rw [gen_length]; omega)
  unfold laid
  rw [set_left _ (by rw [phA_size _ _ hl]; omega), phA_set _ _ i (by omega), pad_snoc f i hi]
theorem laid_snd {N : Nat} {f g : Nat → Int} {i k : Nat} (hi : i ≤ 32) (hk : k < 32) : (laid N f g i k).setIfInBounds (33 + k) (.int .i64 (g k)) = laid N f g i (k + 1) := by
  have hl : (padL (gen i f)).length = 32 := padL_length (by rw [gen_length]; omega)
  have hl2 : (padL (gen k g)).length = 32 := padL_length (by rw [gen_length]; omega)
  unfold laid
  rw [set_right _ (phA_size _ _ hl), phA_set _ _ k (by omega), pad_snoc g k hk]
theorem laid_end {N : Nat} {f g : Nat → Int} (h1 : isSeq (gen N f) = true) (h2 : isSeq (gen N g) = true) : laid N f g N N = prC (gen N f) (gen N g) := by
  unfold laid prC
  rw [phC_seq h1, phC_seq h2, gen_length, gen_length]
theorem laid_getA {N : Nat} {f g : Nat → Int} {i k : Nat} (hi : i ≤ 32) (j : Nat) (hj : j < 32) : ∃ v, (laid N f g i k)[j]? = some v := by
  have hl : (padL (gen i f)).length = 32 := padL_length (by rw [gen_length]; omega)
  unfold laid
  rw [Array.getElem?_append_left (by rw [phA_size _ _ hl]; omega), phA_get _ _ j (by omega)]
  exact ⟨_, rfl⟩
theorem laid_getB {N : Nat} {f g : Nat → Int} {i k : Nat} (hi : i ≤ 32) (hk : k ≤ 32) (j : Nat) (hj : j < 32) : ∃ v, (laid N f g i k)[33 + j]? = some v := by
  have hl : (padL (gen i f)).length = 32 := padL_length (by rw [gen_length]; omega)
  have hl2 : (padL (gen k g)).length = 32 := padL_length (by rw [gen_length]; omega)
  unfold laid
  rw [Array.getElem?_append_right (by rw [phA_size _ _ hl]; omega), phA_size _ _ hl, Nat.add_sub_cancel_left, phA_get _ _ j (by omega)]
  exact ⟨_, rfl⟩
theorem stL_seq (o ph : List Int) (c : Int) (s : Bool) (h : o.length ≤ 5) : isSeq (stL o ph c s) = true := by
  unfold stL
  exact gen_seq _ _ (by have := (pow5 _ h).2; omega) (fun i _ => by omega)

theorem shl_small (M N : Nat) (hM : M ≤ 5) (hN : N = 2 ^ M) : wrap64 (2 ^ M) = (N : Int) := by
  subst hN
  rcases (show M = 0 ∨ M = 1 ∨ M = 2 ∨ M = 3 ∨ M = 4 ∨ M = 5 by omega) with rfl | rfl | rfl | rfl | rfl | rfl <;> simp [wrap64]
theorem stT_bound (o ph : List Int) (c : Int) (s : Bool) (x : Nat) (hM : o.length ≤ 5) (hp : allIn ph 0 3 = true) (hlen : ph.length = o.length) (hc0 : 0 ≤ c) (hc3 : c ≤ 3) : 0 ≤ stT o ph c s x ∧ stT o ph c s x ≤ 100 := by
  have h1 := phS_bound ph x hp ph.length (Nat.le_refl _)
  have h2 := orS_bound o x (o.length - 1)
  have h3 := bitI_01 x (o.getD 0 0)
  unfold stT
  cases s
  · simp only [Bool.false_eq_true, if_false]; omega
  · simp only [if_true]; omega
set_option maxRecDepth 100000 in
set_option maxHeartbeats 4000000 in
theorem made_standard (va vb : Value) (o ph : List Int) (c : Int) (w0 w : World) (hbw : Below w0.heap.size w0 w) (hva0 : IS w0 va o) (hvb0 : IS w0 vb ph) (ho : orOk o = true) (hp : allIn ph 0 3 = true) (hlen : ph.length = o.length) (hc0 : 0 ≤ c) (hc3 : c ≤ 3) :
    Calls Try.prog 40 #[.agg (stC va vb c)] w (Ret w (.tuple #[.agg (prC (stL o ph c false) (stL o ph c true)), .bool true])) := by
  have hva := hva0.below hbw
  have hvb := hvb0.below hbw
  have hM := (orOk_parts ho).1
  have h0k := orOk_at ho 0 (by omega)
  have HPA := Lib.hid (fun (x : Nat) (hx : x ≤ 32) w' (h : Below w.heap.size w w') => phaseAt_any va vb o ph c x hx w' (hva.below h) (hvb.below h) ho hp hlen hc0 hc3)
  have HTB := Lib.hid (fun x => stT_bound o ph c false x hM.2 hp hlen hc0 hc3)
  have HT2 := Lib.hid (fun x => show stT o ph c true x = stT o ph c false x + 2 * bitI x (o.getD 0 0) by unfold stT; simp)
  have OK := Lib.hid (stC_one c hva hvb)
  obtain ⟨N, hN⟩ : ∃ N : Nat, N = 2 ^ o.length := ⟨_, rfl⟩
  have hN2 := pow5 o.length hM.2
  rw [← hN] at hN2
  have hsh := shl_small o.length N hM.2 hN
  obtain ⟨GA, hGA⟩ : ∃ G : Nat → Int, G = fun (x : Nat) => stT o ph c false x % 4 := ⟨_, rfl⟩
  obtain ⟨GB, hGB⟩ : ∃ G : Nat → Int, G = fun (x : Nat) => stT o ph c true x % 4 := ⟨_, rfl⟩
  have he1 : stL o ph c false = gen N GA := by rw [hGA, hN]; rfl
  have he2 : stL o ph c true = gen N GB := by rw [hGB, hN]; rfl
  have hs1 := stL_seq o ph c false hM.2
  have hs2 := stL_seq o ph c true hM.2
  rw [he1] at hs1 ⊢
  rw [he2] at hs2 ⊢
  have HEND := Lib.hid (laid_end hs1 hs2)
  have HA := Lib.hid (fun k => show GA k = stT o ph c false k % 4 by rw [hGA])
  have HB2 := Lib.hid (fun k => show GB k = (stT o ph c false k + 2 * bitI k (o.getD 0 0)) % 4 by rw [hGB, ← HT2.out])
  obtain ⟨F, hF⟩ : ∃ F : Nat → Int, F = fun k => stT o ph c false k := ⟨_, rfl⟩
  have hFx : ∀ k, stT o ph c false k = F k := fun k => by rw [hF]
  simp only [hFx] at HPA HTB HA HB2
  obtain ⟨a, cap, hveq⟩ : ∃ a cap, va = .slice a o.length cap := by rcases hva with ⟨rfl, a, cap, rfl⟩ | ⟨_, b, off, cap, rfl, _⟩ <;> exact ⟨_, _, rfl⟩
  obtain ⟨a', cap', hveq'⟩ : ∃ a cap, vb = .slice a ph.length cap := by rcases hvb with ⟨rfl, a, cap, rfl⟩ | ⟨_, b, off, cap, rfl, _⟩ <;> exact ⟨_, _, rfl⟩
  subst hveq hveq'
  have HVA := Lib.hid hva
  obtain ⟨M, hMd⟩ : ∃ M, M = o.length := ⟨_, rfl⟩
  rw [hlen] at HPA OK ⊢
  rw [← hMd] at HVA HPA OK hM hsh h0k ⊢
  have HMD := Lib.hid hMd
  have SK := Lib.hid (stC_size (.slice a M cap) (.slice a' M cap') c)
  have N0 := Lib.hid (show (stC (.slice a M cap) (.slice a' M cap') c)[0]? = some (.slice a M cap) from rfl)
  have IJ := Lib.hid (show (Try.prog.info? 35).map (·.size) = some (stC (.slice a M cap) (.slice a' M cap') c).size from infoStd)
  obtain ⟨u, hu⟩ : ∃ u, u = o.getD 0 0 := ⟨_, rfl⟩
  rw [← hu] at h0k HB2
  have HU := Lib.hid hu
  obtain ⟨u, rfl⟩ := Int.eq_ofNat_of_zero_le h0k.1
  have hu5 : u < 5 := by omega
  obtain ⟨J, hJ⟩ : ∃ Z, Z = stC (.slice a M cap) (.slice a' M cap') c := ⟨_, rfl⟩
  rw [← hJ] at SK OK N0 IJ HPA ⊢
  have HBU := Lib.hid (built_pair (phA z32 N) (phA z32 N) (phA_size _ _ z32_length) (phA_size _ _ z32_length))
  have SZ := Lib.hid (prC_size [] [])
  have ZZ := Lib.hid zeroPr
  obtain ⟨Z, hZ⟩ : ∃ Z, Z = prC [] [] := ⟨_, rfl⟩
  rw [← hZ] at SZ ZZ
  rw [laid_start N GA GB] at HBU
  have SP := Lib.hid (prC_size (gen N GA) (gen N GB))
  have OP := Lib.hid (prC_one (gen N GA) (gen N GB))
  have IC := Lib.hid (infoPrC (gen N GA) (gen N GB))
  rw [← HEND.out] at SP OP IC ⊢
  have SL := Lib.hid (laid_size (N := N) (f := GA) (g := GB) (i := 0) (k := 0) (by omega) (by omega))
  have OL := Lib.hid (laid_one N GA GB 0 0)
  have IL := Lib.hid (fun (i k : Nat) (hi : i ≤ 32) (hk : k ≤ 32) => show (Try.prog.info? 45).map (·.size) = some (laid N GA GB i k).size by rw [laid_size hi hk]; exact infoPr)
  have LF := Lib.hid (fun i k (hi : i < 32) => laid_fst (N := N) (f := GA) (g := GB) (i := i) (k := k) hi)
  have LS := Lib.hid (fun i k (hi : i ≤ 32) (hk : k < 32) => laid_snd (N := N) (f := GA) (g := GB) (i := i) (k := k) hi hk)
  have LA := Lib.hid (fun i k (hi : i ≤ 32) => laid_getA (N := N) (f := GA) (g := GB) (i := i) (k := k) hi)
  have LB := Lib.hid (fun i k (hi : i ≤ 32) (hk : k ≤ 32) => laid_getB (N := N) (f := GA) (g := GB) (i := i) (k := k) hi hk)
  obtain ⟨D, hD⟩ : ∃ D : Nat → Nat → Array Value, D = laid N GA GB := ⟨_, rfl⟩
  rw [← hD] at HBU SP OP IC SL OL IL LF LS LA LB ⊢
  clear HEND HT2 hN hGA hGB he1 he2 hs1 hs2 hF hFx hva hvb hlen hMd hu hJ hZ hD ho hp hc0 hc3 h0k hva0 hvb0 hbw
  have B0 := Lib.hid (Below.refl w.heap.size w)
  go_enter Try.func40, Try.ntmps40
  go_wp2_with (first
    | ((with_reducible refine at_op (Op.box 35 (.tmp 0)) ?_); refine wpList_box_row rfl 35 (.tmp 0) rfl J rfl ?_; intro w1 hr hb hz; have R1_j := Lib.hid hr; have B1 := Lib.hid (joins B0.out hb); have L1_j := Lib.hid (show w.heap.size ≤ w.heap.size from B0.out.size); clear hr hb hz)
    | ((with_reducible refine at_op (d := some 2) (Op.alloc 45) ?_); refine wpList_alloc_row rfl 45 rfl Z (fun w => ZZ.out w) ?_; intro w2 hr hb hz; have N2_j_r := Lib.hid (Nat.ne_of_lt (row_lt R1_j.out)); have N2_r_j := Lib.hid (Ne.symm N2_j_r.out); have R2_j := Lib.hid (rowB R1_j.out hb); have R2_r := Lib.hid hr; have B2 := Lib.hid (joins B1.out hb); have L2_r := Lib.hid (show w.heap.size ≤ w1.heap.size from B1.out.size); have c0 := rowC R2_j.out N0.out; clear hr hb hz)
    | ((with_reducible refine at_op (Op.build 45 #[(0, .tmp 13), (1, .tmp 15)]) ?_); refine wpList_build_row rfl 45 [(0, .tmp 13), (1, .tmp 15)] rfl (D 0 0) HBU.out ?_)
    | ((with_reducible refine at_op (d := some 5) (Op.alloc 45) ?_); (generalize hY : (#[.int .i64 0, .int .i64 0, .int .i64 0, .int .i64 0, .int .i64 0, .int .i64 0, .int .i64 0, .int .i64 0, .int .i64 0, .int .i64 0, .int .i64 0, .int .i64 0, .int .i64 0, .int .i64 0, .int .i64 0, .int .i64 0, .int .i64 0, .int .i64 0, .int .i64 0, .int .i64 0, .int .i64 0, .int .i64 0, .int .i64 0, .int .i64 0, .int .i64 0, .int .i64 0, .int .i64 0, .int .i64 0, .int .i64 0, .int .i64 0, .int .i64 0, .int .i64 0, .int .i64 (N : Int)] : Array Value) = Y); (clear hY); refine wpList_alloc_row rfl 45 rfl Z (fun w => ZZ.out w) ?_; intro w3 hr hb hz; have N3_j_p := Lib.hid (Nat.ne_of_lt (row_lt R2_j.out)); have N3_p_j := Lib.hid (Ne.symm N3_j_p.out); have N3_r_p := Lib.hid (Nat.ne_of_lt (row_lt R2_r.out)); have N3_p_r := Lib.hid (Ne.symm N3_r_p.out); have R3_j := Lib.hid (rowB R2_j.out hb); have R3_r := Lib.hid (rowB R2_r.out hb); have R3_p := Lib.hid hr; have B3 := Lib.hid (joins B2.out hb); have L3_p := Lib.hid (show w.heap.size ≤ w2.heap.size from B2.out.size); clear hr hb hz)
    | ((with_reducible refine at_op (Op.store 45 (.tmp 5) (.tmp 16)) ?_); refine wpList_put_row rfl 45 (.tmp 5) (.tmp 16) rfl (w2.heap.size) (D 0 0) rfl rfl 45 Z R3_p.out 66 infoPr SL.out SZ.out OL.out w.heap.size w B3.out L3_p.out ?_; intro w4 hr hs hb; have R4_j := Lib.hid (hs.row R3_j.out N3_j_p.out); have R4_r := Lib.hid (hs.row R3_r.out N3_r_p.out); have R4_p := Lib.hid hr; have B4 := Lib.hid hb; clear hr hs hb))
  have LJ := Lib.hid (show w.heap.size ≤ w.heap.size from Nat.le_refl _)
  have LR := L2_r
  have LP := L3_p
  have NJP := N3_j_p
  have NRP := N3_r_p
  have NJR := N2_j_r
  have RJ0 := R4_j
  have RR0 := R4_r
  have RP0 := R4_p
  have BB0 := B4
  clear LJ
  go_loopw [18] (fun i wr => ∃ k : Nat, k ≤ N ∧ i = .int .i64 k ∧ wr.heap[w.heap.size]? = some (.cells J 35 (0, 0)) ∧ wr.heap[w1.heap.size]? = some (.cells Z 45 (0, 0)) ∧ wr.heap[w2.heap.size]? = some (.cells (D k k) 45 (0, 0)) ∧ Below w.heap.size w wr) (fun i _ => N - (intOf i).toNat)
  case atStart => exact ⟨0, Nat.zero_le _, rfl, RJ0.out, RR0.out, RP0.out, BB0.out⟩
  case round =>
    obtain ⟨k, hk, rfl, hj, hr, hp, hbel⟩ := hrel
    have RJ := Lib.hid hj
    have RR := Lib.hid hr
    have RP := Lib.hid hp
    have BR := Lib.hid hbel
    clear hj hr hp hbel
    by_cases hlt : k < N
    · have h0 : (0 : Int) ≤ (k : Int) := by omega
      have h1 : (k : Int) < (N : Int) := by omega
      have h32 : (k : Int) < 32 := by omega
      have HPK := Lib.hid (HPA.out k (by omega) wr BR.out)
      have HTK := HTB.out k
      have HAK := HA.out k
      have HBK := HB2.out k
      obtain ⟨f, hf⟩ : ∃ f, f = F k := ⟨_, rfl⟩
      rw [← hf] at HPK HTK HAK HBK
      obtain ⟨f1, f2⟩ := HTK
      have HBO := Lib.hid (bitOf_any k u (by omega) (by omega))
      have hb1 := bitI_01 k (u : Int)
      obtain ⟨z, hz⟩ : ∃ z, z = bitI k (u : Int) := ⟨_, rfl⟩
      rw [← hz] at HBO HBK hb1
      have HST := Lib.hid (step_two f z ⟨f1, f2⟩ hb1)
      obtain ⟨z1, z2⟩ := hb1
      have HAK' := Lib.hid HAK
      have HBK' := Lib.hid HBK
      clear HAK HBK hf hz
      go_wp2_with ((with_reducible refine at_op (Op.load 35 (.tmp 1)) ?_); refine wpList_load_part rfl 35 (.tmp 1) rfl w.heap.size 0 rfl J J 35 (0, 0) _ RJ.out (Part.self _) Try.underlying35 rfl IJ.out ?_)
      refine (HPK.out).mono ?_
      rintro e wx ⟨rfl, hb⟩
      have RJ2 := Lib.hid (rowB RJ.out hb)
      have RR2 := Lib.hid (rowB RR.out hb)
      have RP2 := Lib.hid (rowB RP.out hb)
      have B2 := Lib.hid (joins BR.out hb)
      clear hb
      obtain ⟨x1, ca⟩ := LA.out k k (by omega) k (by omega)
      have cA := rowC RP2.out ca
      have fA : wx.frozen? ⟨w2.heap.size, k, none⟩ = false := frozen_of_row wx _ _ _ _ RP2.out
      have hset := heap_setCell_same wx w2.heap.size k _ _ (.int .i64 (f % 4)) RP2.out
      rw [← HAK'.out, LF.out k k (by omega), HAK'.out] at hset
      have hoj := (heap_setCell_other wx ⟨w2.heap.size, k, none⟩ w.heap.size (.int .i64 (f % 4)) NJP.out).trans RJ2.out
      have hor := (heap_setCell_other wx ⟨w2.heap.size, k, none⟩ w1.heap.size (.int .i64 (f % 4)) NRP.out).trans RR2.out
      have hb3 := B2.out.setCell (p := ⟨w2.heap.size, k, none⟩) LP.out (.int .i64 (f % 4))
      have cj := rowC hoj N0.out
      have hkp : 0 < o.length := by rw [← HMD.out]; omega
      rcases HVA.out.below hb3 with ⟨h0, _⟩ | ⟨_, b, off, capb, hveq, _, hc⟩
      · rw [h0] at hkp; exact absurd hkp (Nat.not_lt_zero _)
      simp only [Value.slice.injEq] at hveq
      obtain ⟨rfl, hnn, rfl⟩ := hveq
      clear hnn
      have c1 := hc 0 hkp
      rw [Nat.add_zero, ← HU.out] at c1
      clear hc
      obtain ⟨x2, cb⟩ := LB.out (k + 1) k (by omega) (by omega) k (by omega)
      have cB := rowC hset cb
      have fB := frozen_of_row _ w2.heap.size (33 + k) _ _ hset
      have hset2 := heap_setCell_same _ w2.heap.size (33 + k) _ _ (.int .i64 ((f + 2 * z) % 4)) hset
      rw [← HBK'.out, LS.out (k + 1) k (by omega) (by omega), HBK'.out] at hset2
      have hoj2 := (heap_setCell_other _ ⟨w2.heap.size, 33 + k, none⟩ w.heap.size (.int .i64 ((f + 2 * z) % 4)) NJP.out).trans hoj
      have hor2 := (heap_setCell_other _ ⟨w2.heap.size, 33 + k, none⟩ w1.heap.size (.int .i64 ((f + 2 * z) % 4)) NRP.out).trans hor
      have hb4 := hb3.setCell (p := ⟨w2.heap.size, 33 + k, none⟩) LP.out (.int .i64 ((f + 2 * z) % 4))
      have S2 := Lib.hid hset2
      have J2 := Lib.hid hoj2
      have RR4 := Lib.hid hor2
      have B4 := Lib.hid hb4
      clear hset hset2 hoj hoj2 hor hor2 hb3 hb4 ca cb hkp
      go_wp2_with (first
        | (go_at_call 42; refine (modulo_any _ 4 (by omega) (by omega) (by omega) (by omega) _).mono ?_; rintro e w' ⟨rfl, rfl⟩)
        | (go_at_call 43; refine (HBO.out _).mono ?_; rintro e w' ⟨rfl, rfl⟩; (try rw [HST.out])))
      go_roundw
      case rel => exact ⟨k + 1, by omega, by go_num, J2.out, RR4.out, S2.out, B4.out⟩
      case measure => simp [intOf]; omega
    · obtain rfl : N = k := by omega
      have h1 : ¬ (N : Int) < (N : Int) := by omega
      have NPR := Lib.hid (Ne.symm NRP.out)
      have IL' := Lib.hid (IL.out N N (by omega) (by omega))
      go_wp2_with (first
        | ((with_reducible refine at_op (Op.load 45 (.tmp 5)) ?_); refine wpList_load_part rfl 45 (.tmp 5) rfl (w2.heap.size) 0 rfl (D N N) (D N N) 45 (0, 0) _ RP.out (Part.self _) Try.underlying45 rfl IL'.out ?_)
        | ((with_reducible refine at_op (Op.store 45 (.tmp 2) (.tmp 45)) ?_); refine wpList_put_row rfl 45 (.tmp 2) (.tmp 45) rfl (w1.heap.size) (D N N) rfl rfl 45 Z RR.out 66 infoPr SP.out SZ.out OP.out w.heap.size w BR.out LR.out ?_; intro w11 hr hs hb; have R11_p := Lib.hid (hs.row RP.out NPR.out); have R11_r := Lib.hid hr; have B11 := Lib.hid hb; clear hr hs hb))
      refine bodyPost_ret (v := .tuple #[.agg (D N N), .bool true]) ?_ rfl ⟨rfl, B11.out⟩
      rw [results_cell_tmp (p := 2) (u := 3) (ty := 45) Try.results40]
      simp [asAddr, run_loadVar_row _ (w1.heap.size) 45 45 _ (0, 0) _ R11_r.out Try.underlying45 rfl IC.out, Result.andThen]

set_option maxHeartbeats 2000000 in
theorem istandardPair (va vb : Value) (o ph : List Int) (c : Int) (w : World) (hva : IS w va o) (hvb : IS w vb ph) (hla : o.length ≤ 1048576) (hlb : ph.length ≤ 1048576) :
    Calls Try.prog 6 #[va, vb, .int .i64 c] w (Makes2B w (stP o ph c) (stQ o ph c) (stOk o ph c)) := by
  have hs : ∀ s, stOk o ph c = true → isSeq (stL o ph c s) = true := fun s h => stL_seq o ph c s (orOk_parts (stOk_parts h).1).1.2
  have hs1 : isSeq (stP o ph c) = true := iff_seq (hs false)
  have hs2 : isSeq (stQ o ph c) = true := iff_seq (hs true)
  have HL := fun (w' : World) (h : Below w.heap.size w w') => listsMade_standard (stC va vb c) (stOk o ph c) true _ _ hs1 hs2 w'
    (fun w2 h2 => isFit_standard va vb o ph c w w2 (joins h h2) hva hvb hla hlb)
    (fun hok w2 h2 => by
      have hp := stOk_parts hok
      have := made_standard va vb o ph c w w2 (joins h h2) hva hvb hp.1 hp.2.2.1 hp.2.1 hp.2.2.2.1 hp.2.2.2.2
      rwa [← show stP o ph c = stL o ph c false from iff_yes _ hok, ← show stQ o ph c = stL o ph c true from iff_yes _ hok] at this)
  have e0 : (stOk o ph c && true) = stOk o ph c := Bool.and_true _
  have e1 : iff (stOk o ph c) (stP o ph c) = stP o ph c := by
    cases h : stOk o ph c with
    | true => rfl
    | false => exact (stP_no h).symm
  have e2 : iff (stOk o ph c) (stQ o ph c) = stQ o ph c := by
    cases h : stOk o ph c with
    | true => rfl
    | false => exact (stQ_no h).symm
  rw [e0, e1, e2] at HL
  have HBU := Lib.hid (show Try.prog.built 35 [(0, va), (1, vb), (2, .int .i64 c)] = some (stC va vb c) by
    rcases hva with ⟨rfl, a, cap, rfl⟩ | ⟨_, b, off, cap, rfl, _⟩ <;> rcases hvb with ⟨rfl, a, cap, rfl⟩ | ⟨_, b, off, cap, rfl, _⟩ <;> rfl)
  obtain ⟨J, hJ⟩ : ∃ Z, Z = stC va vb c := ⟨_, rfl⟩
  rw [← hJ] at HL HBU
  obtain ⟨X1, hX1⟩ : ∃ X, X = stP o ph c := ⟨_, rfl⟩
  obtain ⟨X2, hX2⟩ : ∃ X, X = stQ o ph c := ⟨_, rfl⟩
  obtain ⟨ok, hok⟩ : ∃ X, X = stOk o ph c := ⟨_, rfl⟩
  rw [← hX1, ← hX2, ← hok] at HL ⊢
  have HL' := Lib.hid HL
  clear HL hJ hX1 hX2 hok hs hs1 hs2 e0 e1 e2 hva hvb
  have B0 := Lib.hid (Below.refl w.heap.size w)
  go_enter Try.func6, Try.ntmps6
  go_wp2_with ((with_reducible refine at_op (Op.build 35 #[(0, .tmp 9), (1, .tmp 10), (2, .tmp 11)]) ?_); refine wpList_build_row rfl 35 [(0, .tmp 9), (1, .tmp 10), (2, .tmp 11)] rfl J HBU.out ?_)
  refine (HL'.out _ B0.out).mono ?_
  rintro e w2 ⟨v_x, v_y, rfl, ho, ho', ap, hb⟩
  have B2 := Lib.hid (joins B0.out hb)
  have O1 := Lib.hid ho
  have O2 := Lib.hid ho'
  have AP := Lib.hid ap
  clear ho ho' ap hb
  go_wp2_with fail
  go_returns
  exact ⟨_, _, rfl, O1.out, O2.out, AP.out, B2.out⟩
end Go.Proofs.Ytcpeikkkegpdhab
