/- The program's isDoubled, doubled, ExtendCodes. -/
import Derived.Test.YtapmehgdnofgnaaSSpX
import Derived.Test.YtapmehgdnofgnaaISpD
namespace Go.Proofs.Ytapmehgdnofgnaa
set_option maxRecDepth 100000
open Go.RowKit

/-- The first k codes are extended. -/
def exS (m : List (List Int)) (k : Nat) : List (List Int) := genR (2 * m.length) (fun i => if i < m.length then (if i < k then exP (m.getD i []) else []) else if i - m.length < k then exQ (m.getD (i - m.length) []) else [])
theorem exS_length (m : List (List Int)) (k : Nat) : (exS m k).length = 2 * m.length := genR_length _ _
theorem exS_zero (m : List (List Int)) : List.replicate (2 * m.length) [] = exS m 0 := by
  unfold exS
  apply getD_ext _ _ []
  · simp [genR_length]
  · intro i hi
    rw [List.length_replicate] at hi
    rw [repl_getD, genR_getD _ _ _ hi]
    simp
theorem exS_step (m : List (List Int)) (k : Nat) (h : k < m.length) : ((exS m k).set k (exP (m.getD k []))).set (m.length + k) (exQ (m.getD k [])) = exS m (k + 1) := by
  unfold exS
  rw [genR_set, genR_set]
  refine genR_ext (fun i hi => ?_)
  by_cases e : i = m.length + k
  · subst e
    rw [if_pos rfl, if_neg (by omega), Nat.add_sub_cancel_left, if_pos (by omega)]
  · rw [if_neg e]
    by_cases e2 : i = k
    · subst e2
      rw [if_pos rfl, if_pos h, if_pos (by omega)]
    · rw [if_neg e2]
      by_cases h1 : i < m.length
      · rw [if_pos h1, if_pos h1]
        by_cases h2 : i < k
        · rw [if_pos h2, if_pos (by omega)]
        · rw [if_neg h2, if_neg (by omega)]
      · rw [if_neg h1, if_neg h1]
        by_cases h2 : i - m.length < k
        · rw [if_pos h2, if_pos (by omega)]
        · rw [if_neg h2, if_neg (by omega)]
theorem getD_map8 (g : List Int → List Int) (m : List (List Int)) (i : Nat) (h : i < m.length) : (m.map g).getD i [] = g (m.getD i []) := by
  simp [List.getD, h]
theorem exS_end (m : List (List Int)) : exS m m.length = exL m := by
  unfold exS exL
  apply getD_ext _ _ []
  · simp [genR_length]; omega
  · intro i hi
    rw [genR_length] at hi
    rw [genR_getD _ _ _ hi]
    by_cases h : i < m.length
    · rw [if_pos h, if_pos h, getD_left _ _ _ _ (by simpa using h), getD_map8 _ _ _ h]
    · rw [if_neg h, if_pos (by omega), show (List.map exP m ++ List.map exQ m).getD i [] = (List.map exQ m).getD (i - m.length) [] from by rw [List.getD_eq_getElem?_getD, List.getElem?_append_right (by simp; omega), List.length_map, ← List.getD_eq_getElem?_getD], getD_map8 _ _ _ (by omega)]
theorem gen_seq8 (n : Nat) (g : Nat → Int) (hn : n ≤ 32) (hg : ∀ i, i < n → 0 ≤ g i ∧ g i ≤ 3) : isSeq (gen n g) = true := by
  refine isSeq_of (by rw [gen_length]; exact hn) ?_
  unfold allIn gen
  rw [List.all_eq_true]
  intro z hz
  simp only [List.mem_map, List.mem_range] at hz
  obtain ⟨i, hi, rfl⟩ := hz
  have := hg i hi
  simp [inB]; omega
theorem listC8 (l : List Int) (hl : isSeq l = true) (w : World) : Calls Try.prog 80 #[.agg (phC l)] w (Makes w l) := by
  have h32 := isSeq_len hl
  rw [phC_seq hl]
  have := list_any (padL l) l.length (padL_length h32) h32 w
  rwa [pad_take] at this
theorem grownPut {W w0 w w' : World} {row : Option Nat} {g S : Nat} (h : W.grownBy w row) (hs : SetAt w w' g) (hb : Below S w0 w') (h1 : Below S w0 w) (hg : W.heap.size ≤ g) : W.grownBy w' row :=
  ⟨(hb.os.trans h1.os.symm).trans h.os, (hb.tape.trans h1.tape.symm).trans h.tape, (hb.output.trans h1.output.symm).trans h.output, Nat.le_trans h.size (Nat.le_of_eq hs.size.symm), fun k hk hne => (hs.block k (fun e => by omega)).trans (h.block k hk hne)⟩
theorem Own.awayAt {w : World} {B g i : Nat} {v u : Value} {l : List Int} (h : Own w B v l) (hg : g < B) : Own (w.setCell ⟨g, i, none⟩ u) B v l :=
  h.grown ⟨rfl, rfl, rfl, by simp, fun k _ hne => heap_setCell_other w ⟨g, i, none⟩ k u (fun e => hne (by rw [e]))⟩ (fun k hk e => by have := (h.lt k hk).1; have e2 : g = k := Option.some.inj e; omega)
theorem Below.both {w w' : World} (hb : Below w.heap.size w w') {g i : Nat} {u : Value} (hg : g < w.heap.size) : Below (w.setCell ⟨g, i, none⟩ u).heap.size (w.setCell ⟨g, i, none⟩ u) (w'.setCell ⟨g, i, none⟩ u) := by
  refine ⟨hb.os, hb.tape, hb.output, by simpa using hb.size, fun k hk => ?_⟩
  have hk2 : k < w.heap.size := by simpa using hk
  by_cases e : k = g
  · subst e
    have h1 := hb.block k hk2
    unfold World.setCell
    simp [Array.getElem?_modify, h1]
  · rw [heap_setCell_other w' ⟨g, i, none⟩ k u e, heap_setCell_other w ⟨g, i, none⟩ k u e]
    exact hb.block k hk2
set_option maxHeartbeats 1000000 in
theorem isDoubled_any (n : Nat) (w : World) : Calls Try.prog 56 #[.int .i64 n] w (Pure w (.bool (hasB8 [1, 2, 4, 8] (n : Int)))) := by
  by_cases h1 : n = 1
  · subst h1
    go_enter Try.func56, Try.ntmps56
    go_wp2
    go_returns
    exact ⟨rfl, rfl⟩
  by_cases h2 : n = 2
  · subst h2
    go_enter Try.func56, Try.ntmps56
    go_wp2
    go_returns
    exact ⟨rfl, rfl⟩
  by_cases h4 : n = 4
  · subst h4
    go_enter Try.func56, Try.ntmps56
    go_wp2
    go_returns
    exact ⟨rfl, rfl⟩
  have g1 : ¬ (n : Int) = 1 := by omega
  have g2 : ¬ (n : Int) = 2 := by omega
  have g4 : ¬ (n : Int) = 4 := by omega
  by_cases h8 : n = 8
  · subst h8
    go_enter Try.func56, Try.ntmps56
    go_wp2
    go_returns
    exact ⟨rfl, rfl⟩
  have g8 : ¬ (n : Int) = 8 := by omega
  have hh : hasB8 [1, 2, 4, 8] (n : Int) = false := by
    unfold hasB8
    exact decide_eq_false (by simp [g1, g2, g4, g8])
  rw [hh]
  go_enter Try.func56, Try.ntmps56
  go_wp2
  go_returns
  exact ⟨ret_bool (by simp [g1, g2, g4, g8]), rfl⟩
set_option maxRecDepth 100000 in
set_option maxHeartbeats 8000000 in
theorem doubled_any (gC : Nat) (m : List (List Int)) (w : World) (hall : AllAt w gC 33 m.length (cdD m) m.length) (hok : ∀ i, i < m.length → isSeq (m.getD i []) = true ∧ (m.getD i []).length ≤ 8) (hn4 : m.length ≤ 4) :
    Calls Try.prog 57 #[.slice (some ⟨gC, 0, none⟩) m.length m.length] w (MakesR w (exL m)) := by
  obtain ⟨i0, hi, hz0, hz1, hz2⟩ := info_parts infoR8
  have HI0 := Lib.hid hi
  have HZ00 := Lib.hid hz0
  have HZ10 := Lib.hid hz1
  have HZ20 := Lib.hid hz2
  clear hi hz0 hz1 hz2
  have hsP : ∀ i, i < m.length → isSeq (exP (m.getD i [])) = true := fun i hi => by
    have h := hok i hi
    unfold exP
    rw [isSeq_append _ _ h.1 h.1]
    exact decide_eq_true (by omega)
  have hsT : ∀ i, i < m.length → isSeq (turnG (m.getD i []) 2) = true ∧ (turnG (m.getD i []) 2).length ≤ 8 := fun i hi => by
    have h := hok i hi
    refine ⟨gen_seq8 _ _ (isSeq_len h.1) (fun i _ => by omega), ?_⟩
    unfold turnG; rw [gen_length]; exact h.2
  have hsQ : ∀ i, i < m.length → isSeq (exQ (m.getD i [])) = true := fun i hi => by
    have h := hok i hi
    have h2 := hsT i hi
    unfold exQ
    rw [isSeq_append _ _ h.1 h2.1]
    exact decide_eq_true (by omega)
  have HJ1 := Lib.hid (fun i (hi : i < m.length) (w1 : World) => show Calls Try.prog 78 #[.agg (cdD m i), .agg (cdD m i)] w1 (Ret w1 (.tuple #[.agg (phC (exP (m.getD i []))), .bool true])) from by
    have h := joined_any (m.getD i []) (m.getD i []) (by have := (hok i hi).2; omega) w1
    rw [phC_seq (hsP i hi), show cdD m i = phC (m.getD i []) from rfl, phC_seq (hok i hi).1]
    exact h)
  have HTU := Lib.hid (fun i (hi : i < m.length) (w1 : World) => show Calls Try.prog 79 #[.agg (cdD m i), .int .i64 2] w1 (Ret w1 (.agg (phC (turnG (m.getD i []) 2)))) from by
    have h := turned_any (m.getD i []) 2 (hok i hi).1 (by omega) (by omega) w1
    rw [phC_seq (hsT i hi).1, show cdD m i = phC (m.getD i []) from rfl, phC_seq (hok i hi).1, show (turnG (m.getD i []) 2).length = (m.getD i []).length from by unfold turnG; rw [gen_length]]
    exact h)
  have HJ2 := Lib.hid (fun i (hi : i < m.length) (w1 : World) => show Calls Try.prog 78 #[.agg (cdD m i), .agg (phC (turnG (m.getD i []) 2))] w1 (Ret w1 (.tuple #[.agg (phC (exQ (m.getD i []))), .bool true])) from by
    have h := joined_any (m.getD i []) (turnG (m.getD i []) 2) (by have := (hok i hi).2; have := (hsT i hi).2; omega) w1
    rw [phC_seq (hsQ i hi), phC_seq (hsT i hi).1, show cdD m i = phC (m.getD i []) from rfl, phC_seq (hok i hi).1]
    exact h)
  have HLP := Lib.hid (fun i (hi : i < m.length) (w1 : World) => listC8 (exP (m.getD i [])) (hsP i hi) w1)
  have HLQ := Lib.hid (fun i (hi : i < m.length) (w1 : World) => listC8 (exQ (m.getD i [])) (hsQ i hi) w1)
  have HSZ := Lib.hid (show ∀ x, (cdD m x).size = 33 from fun x => phC_size _)
  have HONE := Lib.hid (show ∀ x, (cdD m x).all (·.oneCell') = true from fun x => phC_one _)
  have HIN := Lib.hid (show ∀ x, (Try.prog.info? 61).map (·.size) = some (cdD m x).size from fun x => infoPhC8 _)
  obtain ⟨TT, hTT⟩ : ∃ D : Nat → Array Value, D = fun i => phC (turnG (m.getD i []) 2) := ⟨_, rfl⟩
  obtain ⟨PP, hPP⟩ : ∃ D : Nat → Array Value, D = fun i => phC (exP (m.getD i [])) := ⟨_, rfl⟩
  obtain ⟨QQ, hQQ⟩ : ∃ D : Nat → Array Value, D = fun i => phC (exQ (m.getD i [])) := ⟨_, rfl⟩
  have eT : ∀ i, phC (turnG (m.getD i []) 2) = TT i := fun i => by rw [hTT]
  have eP : ∀ i, phC (exP (m.getD i [])) = PP i := fun i => by rw [hPP]
  have eQ : ∀ i, phC (exQ (m.getD i [])) = QQ i := fun i => by rw [hQQ]
  simp only [eT, eP, eQ] at HJ1 HTU HJ2 HLP HLQ
  have HSP := Lib.hid (show ∀ x, (PP x).size = 33 from fun x => by rw [← eP]; exact phC_size _)
  have HOP := Lib.hid (show ∀ x, (PP x).all (·.oneCell') = true from fun x => by rw [← eP]; exact phC_one _)
  have HIP := Lib.hid (show ∀ x, (Try.prog.info? 61).map (·.size) = some (PP x).size from fun x => by rw [← eP]; exact infoPhC8 _)
  have HSQ := Lib.hid (show ∀ x, (QQ x).size = 33 from fun x => by rw [← eQ]; exact phC_size _)
  have HOQ := Lib.hid (show ∀ x, (QQ x).all (·.oneCell') = true from fun x => by rw [← eQ]; exact phC_one _)
  have HIQ := Lib.hid (show ∀ x, (Try.prog.info? 61).map (·.size) = some (QQ x).size from fun x => by rw [← eQ]; exact infoPhC8 _)
  have SZZ := Lib.hid (phA_size z32 0 z32_length)
  have ZZ := Lib.hid zeroPh
  obtain ⟨Z, hZ⟩ : ∃ Z, Z = phA z32 0 := ⟨_, rfl⟩
  rw [← hZ] at SZZ ZZ
  have HST := Lib.hid (exS_step m)
  have HSE := Lib.hid (exS_end m)
  have HSL := Lib.hid (exS_length m)
  obtain ⟨DD, hDD⟩ : ∃ D, D = cdD m := ⟨_, rfl⟩
  rw [← hDD] at HJ1 HTU HJ2 HSZ HONE HIN hall
  have hzr := exS_zero m
  obtain ⟨n, hn⟩ : ∃ n, n = m.length := ⟨_, rfl⟩
  rw [← hn] at HJ1 HTU HJ2 HLP HLQ HST HSE HSL hall hn4 hzr ⊢
  obtain ⟨n2, hn2⟩ : ∃ n2, n2 = 2 * n := ⟨_, rfl⟩
  rw [← hn2] at HSL hzr
  have hmul : (2 : Int) * (n : Int) = (n2 : Int) := by omega
  have HN2 := Lib.hid hn2
  have FA0 := Lib.hid hall
  clear hTT hPP hQQ eT eP eQ hZ hDD hn hn2 hok hsP hsT hsQ hall
  go_enter Try.func57, Try.ntmps57
  go_wp2_with (at_make; refine wpList_make_full _ rfl _ _ 22 rfl w.heap.size 31 i0 (.slice none 0 0) 1 Try.underlying22 HI0.out HZ00.out HZ10.out _ _ _ _ n2 rfl rfl rfl rfl ?b2_0 ?b3_0 (Nat.le_refl _) ?_)
  case b2_0 => rw [HZ20.out]; omega
  case b3_0 => unfold maxLen; omega
  intro w2 hown0 hgrow0
  rw [made_rows] at hown0
  have hb : Below w.heap.size w w2 := (Below.refl _ _).grown hgrow0 (Nat.le_refl _) (fun k h => by cases h)
  have OO0 := Lib.hid (OwnR.made hown0)
  rw [hzr] at OO0
  have B2_ := Lib.hid hb
  have FA2_ := Lib.hid (FA0.out.below hb)
  have LO := Lib.hid (Nat.le_refl w.heap.size)
  have NCO := Lib.hid (show gC ≠ w.heap.size from Nat.ne_of_lt FA0.out.lt)
  clear hown0 hgrow0 hb hzr
  obtain ⟨gO, hgO⟩ : ∃ g, g = w.heap.size := ⟨_, rfl⟩
  have HGO := Lib.hid hgO
  rw [← hgO] at OO0 NCO
  go_wp2_with fail
  rw [← hgO]
  clear hgO
  go_loopw [16] (fun q wr => ∃ k : Nat, k ≤ n ∧ q = .int .i64 k ∧ AllAt wr gC 33 n DD n ∧ OwnR wr gO (.slice (some ⟨gO, 0, none⟩) n2 n2) (exS m k) ∧ Below w.heap.size w wr) (fun q _ => n - (intOf q).toNat)
  case atStart => exact ⟨0, Nat.zero_le _, rfl, FA2_.out, OO0.out, B2_.out⟩
  case round =>
    obtain ⟨k, hk, rfl, hfa, ho, hbel⟩ := hrel
    have FA := Lib.hid hfa
    have RO := Lib.hid ho
    have BR := Lib.hid hbel
    clear hfa ho hbel
    obtain ⟨wo, hwo⟩ : ∃ w', w' = wr := ⟨_, rfl⟩
    rw [← hwo] at FA RO BR ⊢
    clear hwo
    by_cases hlt : k < n
    · have h0 : (0 : Int) ≤ (k : Int) := by omega
      have h1 : (k : Int) < (n : Int) := by omega
      have LGO := Lib.hid (RO.out.lt _ rfl).2
      go_wp2_with (first
        | ((with_reducible refine at_op (Op.load 61 (.tmp 19)) ?_); refine wpList_load_at rfl 61 (.tmp 19) rfl gC 33 n n k DD rfl FA.out hlt (HSZ.out k) _ Try.underlying61 rfl infoPh ?_)
        | ((with_reducible refine at_op (d := some 5) (Op.alloc 61) ?_); refine wpList_alloc_row rfl 61 rfl Z ZZ.out ?_; intro w31 hr hb hz; have R31_a := Lib.hid hr; have L31_a := Lib.hid (show wo.heap.size ≤ wo.heap.size from Nat.le_refl _); have D31 := Lib.hid (hb); clear hr hb hz)
        | ((with_reducible refine at_op (Op.store 61 (.tmp 5) (.tmp 20)) ?_); refine wpList_put_row rfl 61 (.tmp 5) (.tmp 20) rfl (wo.heap.size) (DD k) rfl rfl 61 Z R31_a.out 33 infoPh (HSZ.out k) SZZ.out (HONE.out k) wo.heap.size wo D31.out L31_a.out ?_; intro w32 hr hs hb; have RA := Lib.hid hr; have F32 := Lib.hid (FA.out.below hb); have O32 := Lib.hid (RO.out.below hb); have B32 := Lib.hid (joins BR.out hb); clear hr hs hb)
        | ((with_reducible refine at_op (Op.load 61 (.tmp 5)) ?_); refine wpList_load_row rfl 61 (.tmp 5) rfl wo.heap.size rfl 61 (DD k) (0, 0) _ RA.out Try.underlying61 rfl (HIN.out k) ?_))
      refine (HJ1.out k hlt _).mono ?_
      rintro e w33 ⟨rfl, hb⟩
      have RA3 := Lib.hid (rowB RA.out hb)
      have F33 := Lib.hid (F32.out.below hb)
      have O33 := Lib.hid (O32.out.below hb)
      have B33 := Lib.hid (joins B32.out hb)
      have L33 := Lib.hid (show wo.heap.size < w33.heap.size from row_lt RA3.out)
      clear hb
      go_wp2_with (first
        | ((with_reducible refine at_op (d := some 6) (Op.alloc 61) ?_); refine wpList_alloc_row rfl 61 rfl Z ZZ.out ?_; intro w34 hr hb hz; have R34_a := Lib.hid hr; have L34_a := Lib.hid (show w33.heap.size ≤ w33.heap.size from Nat.le_refl _); have D34 := Lib.hid (hb); clear hr hb hz)
        | ((with_reducible refine at_op (Op.store 61 (.tmp 6) (.tmp 25)) ?_); refine wpList_put_row rfl 61 (.tmp 6) (.tmp 25) rfl (w33.heap.size) (PP k) rfl rfl 61 Z R34_a.out 33 infoPh (HSP.out k) SZZ.out (HOP.out k) w33.heap.size w33 D34.out L34_a.out ?_; intro wq hr hs hb; have RT6 := Lib.hid hr; have RA4 := Lib.hid (rowB RA3.out hb); have F4 := Lib.hid (F33.out.below hb); have O4 := Lib.hid (O33.out.below hb); have B4 := Lib.hid (joins B33.out hb); clear hr hs hb))
      have BQ0 := Lib.hid (Below.refl wq.heap.size wq)
      have NE6L := Lib.hid (show gO < wq.heap.size from (O4.out.lt _ rfl).2)
      have NE6 := Lib.hid (show gO ≠ w33.heap.size from by have h9 : gO < w33.heap.size := (O33.out.lt _ rfl).2; omega)
      obtain ⟨nk, hnk⟩ : ∃ x, x = n + k := ⟨_, rfl⟩
      have HNK := Lib.hid hnk
      have HADI := Lib.hid (show IntKind.i64.wrap ((n : Int) + (k : Int)) = (nk : Int) from by rw [show (n : Int) + (k : Int) = (nk : Int) by omega]; exact IntWalk.i64_in _ ⟨by omega, by omega⟩)
      have HK0 := Lib.hid h0
      have HK1 := Lib.hid (show (k : Int) < (n2 : Int) by have := HN2.out; omega)
      have HJ0 := Lib.hid (show (0 : Int) ≤ (nk : Int) by omega)
      have HJ1N := Lib.hid (show (nk : Int) < (n2 : Int) by have := HN2.out; omega)
      have HLEN := Lib.hid (show n2 = (exS m k).length from (HSL.out k).symm)
      have HKN := Lib.hid (show k < (exS m k).length by rw [HSL.out k]; have := HN2.out; omega)
      have HJN := Lib.hid (show nk < (exS m k).length by rw [HSL.out k]; have := HN2.out; omega)
      have HNE := Lib.hid (show ¬ k = nk by omega)
      have hstk := HST.out k hlt
      rw [← hnk] at hstk
      have hlpk := HLP.out k hlt
      have hlqk := HLQ.out k hlt
      obtain ⟨P1, hP1⟩ : ∃ P, P = exP (m.getD k []) := ⟨_, rfl⟩
      obtain ⟨Q1, hQ1⟩ : ∃ P, P = exQ (m.getD k []) := ⟨_, rfl⟩
      rw [← hP1] at hstk hlpk
      rw [← hQ1] at hstk hlqk
      have HSTk := Lib.hid hstk
      have HLPk := Lib.hid hlpk
      have HLQk := Lib.hid hlqk
      have LOG := Lib.hid (show w.heap.size ≤ gO from by rw [HGO.out]; exact Nat.le_refl _)
      clear hnk hstk hlpk hlqk hP1 hQ1
      refine wp_region_held_drew (S := (fun w' => World.grownBy wq w' none)) (by kernel_rfl) (grownDrew (World.grownBy.refl _ _)) ?_
      obtain ⟨d1, hdw⟩ : ∃ w', w' = wq.drew := ⟨_, rfl⟩
      rw [← hdw]
      have hb : Below wq.heap.size wq d1 := by rw [hdw]; exact belowN (Below.refl _ _) 1
      have F1_BQ := Lib.hid (joins BQ0.out hb)
      clear hdw hb
      intro hHeld
      refine' wpAnyH_take (i := 0) (v := _) rfl (by kernel_rfl) (by kernel_rfl) (by kernel_rfl) (fun _ _ _ h => h) (yieldsPart (by rfl) 61 (.tmp 5) rfl (wo.heap.size) 0 rfl (DD k) (DD k) 61 (0, 0) _ (fun w h => rowG8 RA4.out h (by simp)) (Part.self _) Try.underlying61 rfl (HIN.out k)) (by assumption) ?rest1
      (try simp only [Act.put, List.getElem_toArray, List.getElem_cons_zero, List.setIfInBounds_toArray, List.set_cons_zero, List.set_cons_succ])
      refine' wpAnyH_take (i := 1) (v := _) rfl (by kernel_rfl) (by kernel_rfl) (by kernel_rfl) (fun _ _ _ h => h) (yieldsPart (by rfl) 61 (.tmp 5) rfl (wo.heap.size) 0 rfl (DD k) (DD k) 61 (0, 0) _ (fun w h => rowG8 RA4.out h (by simp)) (Part.self _) Try.underlying61 rfl (HIN.out k)) (by assumption) ?rest2
      (try simp only [Act.put, List.getElem_toArray, List.getElem_cons_zero, List.getElem_cons_succ, List.setIfInBounds_toArray, List.set_cons_zero, List.set_cons_succ])
      refine wpAnyH_ready (rs := [2, 7]) (by kernel_rfl) (by simp) ?_
      refine AllReadyH.cons rfl (fun K hK => ?_) (AllReadyH.cons rfl (fun K hK => ?_) AllReadyH.nil)
      · go_simp
        refine (HTU.out k hlt _).mono ?_
        rintro e d2 ⟨rfl, hb⟩
        have F2_BQ := Lib.hid (joins F1_BQ.out hb)
        have hHeld := grownB hHeld hb
        clear hb
        refine hK.out _ _ hHeld (fun hHeld => ?_)
        clear hK K
        (try simp only [Act.put, List.getElem_toArray, List.getElem_cons_zero, List.getElem_cons_succ, List.setIfInBounds_toArray, List.set_cons_zero, List.set_cons_succ])
        refine wpAnyH_ready (rs := [3, 7]) (by kernel_rfl) (by simp) ?_
        refine AllReadyH.cons rfl (fun K hK => ?_) (AllReadyH.cons rfl (fun K hK => ?_) AllReadyH.nil)
        · go_simp
          refine (HJ2.out k hlt _).mono ?_
          rintro e d3 ⟨rfl, hb⟩
          have F3_BQ := Lib.hid (joins F2_BQ.out hb)
          have hHeld := grownB hHeld hb
          clear hb
          refine hK.out _ _ hHeld (fun hHeld => ?_)
          clear hK K
          (try simp only [Act.put, List.getElem_toArray, List.getElem_cons_zero, List.getElem_cons_succ, List.setIfInBounds_toArray, List.set_cons_zero, List.set_cons_succ])
          refine' wpAnyH_take (i := 4) (v := _) rfl (by kernel_rfl) (by kernel_rfl) (by kernel_rfl) (fun _ _ _ h => h) (Or.inl ⟨by rfl, ?hy3⟩) (by assumption) ?rest3
          case hy3 =>
            intro w h
            (try clear h)
            go_simp
            (try with_reducible rfl)
          (try simp only [Act.put, List.getElem_toArray, List.getElem_cons_zero, List.getElem_cons_succ, List.setIfInBounds_toArray, List.set_cons_zero, List.set_cons_succ])
          refine' wpAnyH_take (i := 5) (v := _) rfl (by kernel_rfl) (by kernel_rfl) (by kernel_rfl) (fun _ _ _ h => h) (Or.inl ⟨by rfl, ?hy4⟩) (by assumption) ?rest4
          case hy4 =>
            intro w h
            (try clear h)
            go_simp
            (try with_reducible rfl)
          (try simp only [Act.put, List.getElem_toArray, List.getElem_cons_zero, List.getElem_cons_succ, List.setIfInBounds_toArray, List.set_cons_zero, List.set_cons_succ])
          refine' wpAnyH_take (i := 6) (v := _) rfl (by kernel_rfl) (by kernel_rfl) (by kernel_rfl) (fun _ _ _ h => h) (Or.inl ⟨by rfl, ?hy5⟩) (by assumption) ?rest5
          case hy5 =>
            intro w h
            (try clear h)
            go_simp
            (try with_reducible rfl)
          (try simp only [Act.put, List.getElem_toArray, List.getElem_cons_zero, List.getElem_cons_succ, List.setIfInBounds_toArray, List.set_cons_zero, List.set_cons_succ])
          refine wpAnyH_ready (rs := [7]) (by kernel_rfl) (by simp) ?_
          refine AllReadyH.cons rfl (fun K hK => ?_) AllReadyH.nil
          have hzz := ZZ.out
          go_simp
          obtain ⟨d4, hdw⟩ : ∃ w', w' = d3.alloc (.cells Z 61) := ⟨_, rfl⟩
          rw [← hdw]
          have hb : Below d3.heap.size d3 d4 := by rw [hdw]; exact belowa (Below.refl _ _) _
          obtain ⟨t8, ht8⟩ : ∃ g, g = d3.heap.size := ⟨_, rfl⟩
          rw [← ht8]
          have F4_BQ := Lib.hid (joins F3_BQ.out hb)
          have F4_T8 := Lib.hid (show d4.heap[t8]? = some (.cells Z 61 (0, 0)) from by rw [hdw, ht8]; exact heap_alloc_new _ _)
          have Lt8 := Lib.hid (show wq.heap.size ≤ t8 from by rw [ht8]; exact hHeld.size)
          have hHeld := grownB hHeld hb
          clear hzz hdw hb ht8
          refine hK.out _ _ hHeld (fun hHeld => ?_)
          clear hK K
          (try simp only [Act.put, List.getElem_toArray, List.getElem_cons_zero, List.getElem_cons_succ, List.setIfInBounds_toArray, List.set_cons_zero, List.set_cons_succ])
          refine wpAnyH_ready (rs := [8]) (by kernel_rfl) (by simp) ?_
          refine AllReadyH.cons rfl (fun K hK => ?_) AllReadyH.nil
          rw [if_pos (by rfl)]
          refine wp_put_row 61 (.tmp 8) (.tmp 32) rfl (t8) (QQ k) rfl rfl 61 Z F4_T8.out 33 infoPh (HSQ.out k) SZZ.out (HOQ.out k) wq.heap.size wq F4_BQ.out (Nat.le_trans BQ0.out.size Lt8.out) ?_
          intro d5 hr hs hb
          have F5_T8 := Lib.hid hr
          have F5_BQ := Lib.hid hb
          have hHeld := grownPut hHeld hs hb F4_BQ.out Lt8.out
          clear hr hs hb
          refine hK.out _ _ hHeld (fun hHeld => ?_)
          clear hK K
          (try simp only [Act.put])
          refine' wpAnyH_take (i := 9) (v := _) rfl (by kernel_rfl) (by kernel_rfl) (by kernel_rfl) (fun _ _ _ h => h) (Or.inl ⟨by rfl, ?hy6⟩) (by assumption) ?rest6
          case hy6 =>
            intro w h
            (try clear h)
            go_simp
            (try with_reducible rfl)
          (try simp only [Act.put, List.getElem_toArray, List.getElem_cons_zero, List.getElem_cons_succ, List.setIfInBounds_toArray, List.set_cons_zero, List.set_cons_succ])
          refine wpAnyH_done (by kernel_rfl) ?_ _
          have hbq := F5_BQ.out
          have RT8 := F5_T8
          have L8 := Lt8
          obtain ⟨wz, hwz⟩ : ∃ w', w' = d5 := ⟨_, rfl⟩
          rw [← hwz] at hbq RT8 ⊢
          have RT6z := Lib.hid (rowB RT6.out hbq)
          have FZ := Lib.hid (F4.out.below hbq)
          have OZ := Lib.hid (O4.out.below hbq)
          have BZ := Lib.hid (joins B4.out hbq)
          have NE8 := Lib.hid (show gO ≠ t8 from by have := L8.out; have := NE6L.out; omega)
          clear hwz hbq hHeld
          go_wp2_with fail
          refine wp_region_held_drew (S := (fun w' => World.grownBy wz w' (some (gO)))) (by kernel_rfl) (grownDrew (World.grownBy.refl _ _)) ?_
          obtain ⟨d1, hdw⟩ : ∃ w', w' = wz.drew := ⟨_, rfl⟩
          rw [← hdw]
          have hb : Below wz.heap.size wz d1 := by rw [hdw]; exact belowN (Below.refl _ _) 1
          have F1_O := Lib.hid (OZ.out.below hb)
          have F1_B := Lib.hid (joins BZ.out hb)
          have F1_F := Lib.hid (FZ.out.below hb)
          clear hdw hb
          intro hHeld
          refine' wpAnyH_take (i := 0) (v := _) rfl (by kernel_rfl) (by kernel_rfl) (by kernel_rfl) (fun _ _ _ h => h) (Or.inl ⟨by rfl, ?hy10001⟩) (by assumption) ?rest10001
          case hy10001 =>
            intro w h
            (try clear h)
            go_simp
            (try with_reducible rfl)
          (try simp only [Act.put, List.getElem_toArray, List.getElem_cons_zero, List.setIfInBounds_toArray, List.set_cons_zero, List.set_cons_succ])
          refine' wpAnyH_take (i := 1) (v := _) rfl (by kernel_rfl) (by kernel_rfl) (by kernel_rfl) (fun _ _ _ h => h) (Or.inl ⟨by rfl, ?hy10002⟩) (by assumption) ?rest10002
          case hy10002 =>
            intro w h
            (try clear h)
            go_simp
            (try with_reducible rfl)
          (try simp only [Act.put, List.getElem_toArray, List.getElem_cons_zero, List.getElem_cons_succ, List.setIfInBounds_toArray, List.set_cons_zero, List.set_cons_succ])
          refine' wpAnyH_take (i := 2) (v := _) rfl (by kernel_rfl) (by kernel_rfl) (by kernel_rfl) (fun _ _ _ h => h) (Or.inl ⟨by rfl, ?hy10003⟩) (by assumption) ?rest10003
          case hy10003 =>
            intro w h
            (try clear h)
            go_simp
            (try with_reducible rfl)
          (try simp only [Act.put, List.getElem_toArray, List.getElem_cons_zero, List.getElem_cons_succ, List.setIfInBounds_toArray, List.set_cons_zero, List.set_cons_succ])
          refine' wpAnyH_take (i := 3) (v := _) rfl (by kernel_rfl) (by kernel_rfl) (by kernel_rfl) (fun _ _ _ h => h) (Or.inl ⟨by rfl, ?hy10004⟩) (by assumption) ?rest10004
          case hy10004 =>
            intro w h
            (try clear h)
            go_simp
            (try with_reducible rfl)
          (try simp only [Act.put, List.getElem_toArray, List.getElem_cons_zero, List.getElem_cons_succ, List.setIfInBounds_toArray, List.set_cons_zero, List.set_cons_succ])
          refine' wpAnyH_take (i := 4) (v := _) rfl (by kernel_rfl) (by kernel_rfl) (by kernel_rfl) (fun _ _ _ h => h) (Or.inl ⟨by rfl, ?hy10005⟩) (by assumption) ?rest10005
          case hy10005 =>
            intro w h
            (try clear h)
            go_simp
            (try with_reducible rfl)
          (try simp only [Act.put, List.getElem_toArray, List.getElem_cons_zero, List.getElem_cons_succ, List.setIfInBounds_toArray, List.set_cons_zero, List.set_cons_succ])
          refine' wpAnyH_take (i := 5) (v := _) rfl (by kernel_rfl) (by kernel_rfl) (by kernel_rfl) (fun _ _ _ h => h) (Or.inl ⟨by rfl, ?hy10006⟩) (by assumption) ?rest10006
          case hy10006 =>
            intro w h
            (try clear h)
            go_simp
            (try with_reducible rfl)
          (try simp only [Act.put, List.getElem_toArray, List.getElem_cons_zero, List.getElem_cons_succ, List.setIfInBounds_toArray, List.set_cons_zero, List.set_cons_succ])
          refine' wpAnyH_take (i := 6) (v := _) rfl (by kernel_rfl) (by kernel_rfl) (by kernel_rfl) (fun _ _ _ h => h) (Or.inl ⟨by rfl, ?hy10007⟩) (by assumption) ?rest10007
          case hy10007 =>
            intro w h
            have e1 := HADI.out
            (try clear h)
            go_simp
            (try with_reducible rfl)
          (try simp only [Act.put, List.getElem_toArray, List.getElem_cons_zero, List.getElem_cons_succ, List.setIfInBounds_toArray, List.set_cons_zero, List.set_cons_succ])
          refine' wpAnyH_take (i := 7) (v := _) rfl (by kernel_rfl) (by kernel_rfl) (by kernel_rfl) (fun _ _ _ h => h) (yieldsPart (by rfl) 61 (.tmp 6) rfl (w33.heap.size) 0 rfl (PP k) (PP k) 61 (0, 0) _ (fun w h => rowG8 RT6z.out h (fun e => NE6.out (Option.some.inj e))) (Part.self _) Try.underlying61 rfl (HIP.out k)) (by assumption) ?rest10008
          (try simp only [Act.put, List.getElem_toArray, List.getElem_cons_zero, List.getElem_cons_succ, List.setIfInBounds_toArray, List.set_cons_zero, List.set_cons_succ])
          refine' wpAnyH_take (i := 9) (v := _) rfl (by kernel_rfl) (by kernel_rfl) (by kernel_rfl) (fun _ _ _ h => h) (yieldsPart (by rfl) 61 (.tmp 8) rfl (t8) 0 rfl (QQ k) (QQ k) 61 (0, 0) _ (fun w h => rowG8 RT8.out h (fun e => NE8.out (Option.some.inj e))) (Part.self _) Try.underlying61 rfl (HIQ.out k)) (by assumption) ?rest10009
          (try simp only [Act.put, List.getElem_toArray, List.getElem_cons_zero, List.getElem_cons_succ, List.setIfInBounds_toArray, List.set_cons_zero, List.set_cons_succ])
          refine wpAnyH_ready (rs := [8]) (by kernel_rfl) (by simp) ?_
          refine AllReadyH.cons rfl (fun K hK => ?_) AllReadyH.nil
          go_simp
          refine (HLPk.out _).mono ?_
          rintro e d2 ⟨r1, rfl, ho, hb⟩
          have F2_O := Lib.hid (F1_O.out.below hb)
          have F2_B := Lib.hid (joins F1_B.out hb)
          have F2_F := Lib.hid (F1_F.out.below hb)
          obtain ⟨ra1, rc1, hre1⟩ := ho.is.sl
          subst hre1
          have GP := F1_O
          have HBP := Lib.hid hb
          have HR1 := Lib.hid ho
          have hHeld := grownB hHeld hb
          clear hb
          refine hK.out _ _ hHeld (fun hHeld => ?_)
          clear hK K
          (try simp only [Act.put, List.getElem_toArray, List.getElem_cons_zero, List.getElem_cons_succ, List.setIfInBounds_toArray, List.set_cons_zero, List.set_cons_succ])
          refine wpAnyH_ready (rs := [10]) (by kernel_rfl) (by simp) ?_
          refine AllReadyH.cons rfl (fun K hK => ?_) AllReadyH.nil
          go_simp
          refine (HLQk.out _).mono ?_
          rintro e d3 ⟨r2, rfl, ho, hb⟩
          have F3_O := Lib.hid (F2_O.out.below hb)
          have F3_B := Lib.hid (joins F2_B.out hb)
          have F3_F := Lib.hid (F2_F.out.below hb)
          obtain ⟨ra2, rc2, hre2⟩ := ho.is.sl
          subst hre2
          have GA := F2_O
          have HBA := Lib.hid hb
          have HR2 := Lib.hid ho
          have hHeld := grownB hHeld hb
          clear hb
          refine hK.out _ _ hHeld (fun hHeld => ?_)
          clear hK K
          (try simp only [Act.put, List.getElem_toArray, List.getElem_cons_zero, List.getElem_cons_succ, List.setIfInBounds_toArray, List.set_cons_zero, List.set_cons_succ])
          refine' wpAnyH_take (i := 11) (v := _) rfl (by kernel_rfl) (by kernel_rfl) (by kernel_rfl) (fun _ _ _ h => h) (Or.inl ⟨by rfl, ?hy10010⟩) (by assumption) ?rest10010
          case hy10010 =>
            intro w h
            have g0 := HK0.out
            have g1 := HK1.out
            (try clear h)
            go_simp
            (try with_reducible rfl)
          (try simp only [Act.put, List.getElem_toArray, List.getElem_cons_zero, List.getElem_cons_succ, List.setIfInBounds_toArray, List.set_cons_zero, List.set_cons_succ])
          refine wpAnyH_ready (rs := [12]) (by kernel_rfl) (by simp) ?_
          refine AllReadyH.cons rfl (fun K hK => ?_) AllReadyH.nil
          have ⟨u1, c1, f1, _⟩ := OwnR.cellAt F3_O.out HLEN.out k HKN.out
          go_simp
          refine hK.out _ _ (grownSet hHeld _ _) (fun hHeld => ?_)
          clear hK K
          (try simp only [Act.put])
          refine' wpAnyH_take (i := 13) (v := _) rfl (by kernel_rfl) (by kernel_rfl) (by kernel_rfl) (fun _ _ _ h => h) (Or.inl ⟨by rfl, ?hy10011⟩) (by assumption) ?rest10011
          case hy10011 =>
            intro w h
            have g0 := HJ0.out
            have g1 := HJ1N.out
            (try clear h)
            go_simp
            (try with_reducible rfl)
          (try simp only [Act.put, List.getElem_toArray, List.getElem_cons_zero, List.getElem_cons_succ, List.setIfInBounds_toArray, List.set_cons_zero, List.set_cons_succ])
          refine wpAnyH_ready (rs := [14]) (by kernel_rfl) (by simp) ?_
          refine AllReadyH.cons rfl (fun K hK => ?_) AllReadyH.nil
          have ⟨u2, c2, f2, _⟩ := OwnR.cellAt F3_O.out HLEN.out nk HJN.out
          have hne := HNE.out
          go_simp
          refine hK.out _ _ (grownSet hHeld _ _) (fun hHeld => ?_)
          clear hK K
          (try simp only [Act.put])
          refine wpAnyH_done (by kernel_rfl) ?_ _
          have hlo := (GP.out.lt _ rfl)
          have hlp : gO < _ := hlo.2
          have S1 := GP.out.stored HLEN.out HBP.out (Nat.le_of_lt hlp) HR1.out k HKN.out
          have hla : gO < _ := (GA.out.lt _ rfl).2
          have hbb := Below.both HBA.out (i := k) (u := .slice ra1 P1.length rc1) hla
          have S2 := S1.stored (by rw [List.length_set]; exact HLEN.out) hbb (by simpa using Nat.le_of_lt hla) (by simpa using HR2.out.awayAt hla) nk (by rw [List.length_set]; exact HJN.out)
          rw [HSTk.out] at S2
          have HS2 := Lib.hid S2
          have HF2 := Lib.hid (AllAt.block (w' := (d3.setCell ⟨gO, k, none⟩ (.slice ra1 P1.length rc1)).setCell ⟨gO, nk, none⟩ (.slice ra2 Q1.length rc2)) F3_F.out ((heap_setCell_other (d3.setCell ⟨gO, k, none⟩ (.slice ra1 P1.length rc1)) ⟨gO, nk, none⟩ gC _ NCO.out).trans (heap_setCell_other d3 ⟨gO, k, none⟩ gC _ NCO.out)) (by simpa using F3_F.out.lt))
          have HB2 := Lib.hid (show Below w.heap.size w ((d3.setCell ⟨gO, k, none⟩ (.slice ra1 P1.length rc1)).setCell ⟨gO, nk, none⟩ (.slice ra2 Q1.length rc2)) from belows (belows F3_B.out LOG.out _) LOG.out _)
          clear S1 S2 hbb hla hlp hlo
          go_wp2_with fail
          go_roundw
          case rel => exact ⟨k + 1, by omega, by go_num, HF2.out, HS2.out, HB2.out⟩
          case measure => simp [intOf]; omega
          
          
        · have hzz := ZZ.out
          go_simp
          obtain ⟨d3, hdw⟩ : ∃ w', w' = d2.alloc (.cells Z 61) := ⟨_, rfl⟩
          rw [← hdw]
          have hb : Below d2.heap.size d2 d3 := by rw [hdw]; exact belowa (Below.refl _ _) _
          obtain ⟨t8, ht8⟩ : ∃ g, g = d2.heap.size := ⟨_, rfl⟩
          rw [← ht8]
          have F3_BQ := Lib.hid (joins F2_BQ.out hb)
          have F3_T8 := Lib.hid (show d3.heap[t8]? = some (.cells Z 61 (0, 0)) from by rw [hdw, ht8]; exact heap_alloc_new _ _)
          have Lt8 := Lib.hid (show wq.heap.size ≤ t8 from by rw [ht8]; exact hHeld.size)
          have hHeld := grownB hHeld hb
          clear hzz hdw hb ht8
          refine hK.out _ _ hHeld (fun hHeld => ?_)
          clear hK K
          (try simp only [Act.put, List.getElem_toArray, List.getElem_cons_zero, List.getElem_cons_succ, List.setIfInBounds_toArray, List.set_cons_zero, List.set_cons_succ])
          refine wpAnyH_ready (rs := [3]) (by kernel_rfl) (by simp) ?_
          refine AllReadyH.cons rfl (fun K hK => ?_) AllReadyH.nil
          go_simp
          refine (HJ2.out k hlt _).mono ?_
          rintro e d4 ⟨rfl, hb⟩
          have F4_BQ := Lib.hid (joins F3_BQ.out hb)
          have F4_T8 := Lib.hid (rowB F3_T8.out hb)
          have hHeld := grownB hHeld hb
          clear hb
          refine hK.out _ _ hHeld (fun hHeld => ?_)
          clear hK K
          (try simp only [Act.put, List.getElem_toArray, List.getElem_cons_zero, List.getElem_cons_succ, List.setIfInBounds_toArray, List.set_cons_zero, List.set_cons_succ])
          refine' wpAnyH_take (i := 4) (v := _) rfl (by kernel_rfl) (by kernel_rfl) (by kernel_rfl) (fun _ _ _ h => h) (Or.inl ⟨by rfl, ?hy107⟩) (by assumption) ?rest107
          case hy107 =>
            intro w h
            (try clear h)
            go_simp
            (try with_reducible rfl)
          (try simp only [Act.put, List.getElem_toArray, List.getElem_cons_zero, List.getElem_cons_succ, List.setIfInBounds_toArray, List.set_cons_zero, List.set_cons_succ])
          refine' wpAnyH_take (i := 5) (v := _) rfl (by kernel_rfl) (by kernel_rfl) (by kernel_rfl) (fun _ _ _ h => h) (Or.inl ⟨by rfl, ?hy108⟩) (by assumption) ?rest108
          case hy108 =>
            intro w h
            (try clear h)
            go_simp
            (try with_reducible rfl)
          (try simp only [Act.put, List.getElem_toArray, List.getElem_cons_zero, List.getElem_cons_succ, List.setIfInBounds_toArray, List.set_cons_zero, List.set_cons_succ])
          refine' wpAnyH_take (i := 6) (v := _) rfl (by kernel_rfl) (by kernel_rfl) (by kernel_rfl) (fun _ _ _ h => h) (Or.inl ⟨by rfl, ?hy109⟩) (by assumption) ?rest109
          case hy109 =>
            intro w h
            (try clear h)
            go_simp
            (try with_reducible rfl)
          (try simp only [Act.put, List.getElem_toArray, List.getElem_cons_zero, List.getElem_cons_succ, List.setIfInBounds_toArray, List.set_cons_zero, List.set_cons_succ])
          refine wpAnyH_ready (rs := [8]) (by kernel_rfl) (by simp) ?_
          refine AllReadyH.cons rfl (fun K hK => ?_) AllReadyH.nil
          rw [if_pos (by rfl)]
          refine wp_put_row 61 (.tmp 8) (.tmp 32) rfl (t8) (QQ k) rfl rfl 61 Z F4_T8.out 33 infoPh (HSQ.out k) SZZ.out (HOQ.out k) wq.heap.size wq F4_BQ.out (Nat.le_trans BQ0.out.size Lt8.out) ?_
          intro d5 hr hs hb
          have F5_T8 := Lib.hid hr
          have F5_BQ := Lib.hid hb
          have hHeld := grownPut hHeld hs hb F4_BQ.out Lt8.out
          clear hr hs hb
          refine hK.out _ _ hHeld (fun hHeld => ?_)
          clear hK K
          (try simp only [Act.put])
          refine' wpAnyH_take (i := 9) (v := _) rfl (by kernel_rfl) (by kernel_rfl) (by kernel_rfl) (fun _ _ _ h => h) (Or.inl ⟨by rfl, ?hy110⟩) (by assumption) ?rest110
          case hy110 =>
            intro w h
            (try clear h)
            go_simp
            (try with_reducible rfl)
          (try simp only [Act.put, List.getElem_toArray, List.getElem_cons_zero, List.getElem_cons_succ, List.setIfInBounds_toArray, List.set_cons_zero, List.set_cons_succ])
          refine wpAnyH_done (by kernel_rfl) ?_ _
          have hbq := F5_BQ.out
          have RT8 := F5_T8
          have L8 := Lt8
          obtain ⟨wz, hwz⟩ : ∃ w', w' = d5 := ⟨_, rfl⟩
          rw [← hwz] at hbq RT8 ⊢
          have RT6z := Lib.hid (rowB RT6.out hbq)
          have FZ := Lib.hid (F4.out.below hbq)
          have OZ := Lib.hid (O4.out.below hbq)
          have BZ := Lib.hid (joins B4.out hbq)
          have NE8 := Lib.hid (show gO ≠ t8 from by have := L8.out; have := NE6L.out; omega)
          clear hwz hbq hHeld
          go_wp2_with fail
          refine wp_region_held_drew (S := (fun w' => World.grownBy wz w' (some (gO)))) (by kernel_rfl) (grownDrew (World.grownBy.refl _ _)) ?_
          obtain ⟨d1, hdw⟩ : ∃ w', w' = wz.drew := ⟨_, rfl⟩
          rw [← hdw]
          have hb : Below wz.heap.size wz d1 := by rw [hdw]; exact belowN (Below.refl _ _) 1
          have F1_O := Lib.hid (OZ.out.below hb)
          have F1_B := Lib.hid (joins BZ.out hb)
          have F1_F := Lib.hid (FZ.out.below hb)
          clear hdw hb
          intro hHeld
          refine' wpAnyH_take (i := 0) (v := _) rfl (by kernel_rfl) (by kernel_rfl) (by kernel_rfl) (fun _ _ _ h => h) (Or.inl ⟨by rfl, ?hy20001⟩) (by assumption) ?rest20001
          case hy20001 =>
            intro w h
            (try clear h)
            go_simp
            (try with_reducible rfl)
          (try simp only [Act.put, List.getElem_toArray, List.getElem_cons_zero, List.setIfInBounds_toArray, List.set_cons_zero, List.set_cons_succ])
          refine' wpAnyH_take (i := 1) (v := _) rfl (by kernel_rfl) (by kernel_rfl) (by kernel_rfl) (fun _ _ _ h => h) (Or.inl ⟨by rfl, ?hy20002⟩) (by assumption) ?rest20002
          case hy20002 =>
            intro w h
            (try clear h)
            go_simp
            (try with_reducible rfl)
          (try simp only [Act.put, List.getElem_toArray, List.getElem_cons_zero, List.getElem_cons_succ, List.setIfInBounds_toArray, List.set_cons_zero, List.set_cons_succ])
          refine' wpAnyH_take (i := 2) (v := _) rfl (by kernel_rfl) (by kernel_rfl) (by kernel_rfl) (fun _ _ _ h => h) (Or.inl ⟨by rfl, ?hy20003⟩) (by assumption) ?rest20003
          case hy20003 =>
            intro w h
            (try clear h)
            go_simp
            (try with_reducible rfl)
          (try simp only [Act.put, List.getElem_toArray, List.getElem_cons_zero, List.getElem_cons_succ, List.setIfInBounds_toArray, List.set_cons_zero, List.set_cons_succ])
          refine' wpAnyH_take (i := 3) (v := _) rfl (by kernel_rfl) (by kernel_rfl) (by kernel_rfl) (fun _ _ _ h => h) (Or.inl ⟨by rfl, ?hy20004⟩) (by assumption) ?rest20004
          case hy20004 =>
            intro w h
            (try clear h)
            go_simp
            (try with_reducible rfl)
          (try simp only [Act.put, List.getElem_toArray, List.getElem_cons_zero, List.getElem_cons_succ, List.setIfInBounds_toArray, List.set_cons_zero, List.set_cons_succ])
          refine' wpAnyH_take (i := 4) (v := _) rfl (by kernel_rfl) (by kernel_rfl) (by kernel_rfl) (fun _ _ _ h => h) (Or.inl ⟨by rfl, ?hy20005⟩) (by assumption) ?rest20005
          case hy20005 =>
            intro w h
            (try clear h)
            go_simp
            (try with_reducible rfl)
          (try simp only [Act.put, List.getElem_toArray, List.getElem_cons_zero, List.getElem_cons_succ, List.setIfInBounds_toArray, List.set_cons_zero, List.set_cons_succ])
          refine' wpAnyH_take (i := 5) (v := _) rfl (by kernel_rfl) (by kernel_rfl) (by kernel_rfl) (fun _ _ _ h => h) (Or.inl ⟨by rfl, ?hy20006⟩) (by assumption) ?rest20006
          case hy20006 =>
            intro w h
            (try clear h)
            go_simp
            (try with_reducible rfl)
          (try simp only [Act.put, List.getElem_toArray, List.getElem_cons_zero, List.getElem_cons_succ, List.setIfInBounds_toArray, List.set_cons_zero, List.set_cons_succ])
          refine' wpAnyH_take (i := 6) (v := _) rfl (by kernel_rfl) (by kernel_rfl) (by kernel_rfl) (fun _ _ _ h => h) (Or.inl ⟨by rfl, ?hy20007⟩) (by assumption) ?rest20007
          case hy20007 =>
            intro w h
            have e1 := HADI.out
            (try clear h)
            go_simp
            (try with_reducible rfl)
          (try simp only [Act.put, List.getElem_toArray, List.getElem_cons_zero, List.getElem_cons_succ, List.setIfInBounds_toArray, List.set_cons_zero, List.set_cons_succ])
          refine' wpAnyH_take (i := 7) (v := _) rfl (by kernel_rfl) (by kernel_rfl) (by kernel_rfl) (fun _ _ _ h => h) (yieldsPart (by rfl) 61 (.tmp 6) rfl (w33.heap.size) 0 rfl (PP k) (PP k) 61 (0, 0) _ (fun w h => rowG8 RT6z.out h (fun e => NE6.out (Option.some.inj e))) (Part.self _) Try.underlying61 rfl (HIP.out k)) (by assumption) ?rest20008
          (try simp only [Act.put, List.getElem_toArray, List.getElem_cons_zero, List.getElem_cons_succ, List.setIfInBounds_toArray, List.set_cons_zero, List.set_cons_succ])
          refine' wpAnyH_take (i := 9) (v := _) rfl (by kernel_rfl) (by kernel_rfl) (by kernel_rfl) (fun _ _ _ h => h) (yieldsPart (by rfl) 61 (.tmp 8) rfl (t8) 0 rfl (QQ k) (QQ k) 61 (0, 0) _ (fun w h => rowG8 RT8.out h (fun e => NE8.out (Option.some.inj e))) (Part.self _) Try.underlying61 rfl (HIQ.out k)) (by assumption) ?rest20009
          (try simp only [Act.put, List.getElem_toArray, List.getElem_cons_zero, List.getElem_cons_succ, List.setIfInBounds_toArray, List.set_cons_zero, List.set_cons_succ])
          refine wpAnyH_ready (rs := [8]) (by kernel_rfl) (by simp) ?_
          refine AllReadyH.cons rfl (fun K hK => ?_) AllReadyH.nil
          go_simp
          refine (HLPk.out _).mono ?_
          rintro e d2 ⟨r1, rfl, ho, hb⟩
          have F2_O := Lib.hid (F1_O.out.below hb)
          have F2_B := Lib.hid (joins F1_B.out hb)
          have F2_F := Lib.hid (F1_F.out.below hb)
          obtain ⟨ra1, rc1, hre1⟩ := ho.is.sl
          subst hre1
          have GP := F1_O
          have HBP := Lib.hid hb
          have HR1 := Lib.hid ho
          have hHeld := grownB hHeld hb
          clear hb
          refine hK.out _ _ hHeld (fun hHeld => ?_)
          clear hK K
          (try simp only [Act.put, List.getElem_toArray, List.getElem_cons_zero, List.getElem_cons_succ, List.setIfInBounds_toArray, List.set_cons_zero, List.set_cons_succ])
          refine wpAnyH_ready (rs := [10]) (by kernel_rfl) (by simp) ?_
          refine AllReadyH.cons rfl (fun K hK => ?_) AllReadyH.nil
          go_simp
          refine (HLQk.out _).mono ?_
          rintro e d3 ⟨r2, rfl, ho, hb⟩
          have F3_O := Lib.hid (F2_O.out.below hb)
          have F3_B := Lib.hid (joins F2_B.out hb)
          have F3_F := Lib.hid (F2_F.out.below hb)
          obtain ⟨ra2, rc2, hre2⟩ := ho.is.sl
          subst hre2
          have GA := F2_O
          have HBA := Lib.hid hb
          have HR2 := Lib.hid ho
          have hHeld := grownB hHeld hb
          clear hb
          refine hK.out _ _ hHeld (fun hHeld => ?_)
          clear hK K
          (try simp only [Act.put, List.getElem_toArray, List.getElem_cons_zero, List.getElem_cons_succ, List.setIfInBounds_toArray, List.set_cons_zero, List.set_cons_succ])
          refine' wpAnyH_take (i := 11) (v := _) rfl (by kernel_rfl) (by kernel_rfl) (by kernel_rfl) (fun _ _ _ h => h) (Or.inl ⟨by rfl, ?hy20010⟩) (by assumption) ?rest20010
          case hy20010 =>
            intro w h
            have g0 := HK0.out
            have g1 := HK1.out
            (try clear h)
            go_simp
            (try with_reducible rfl)
          (try simp only [Act.put, List.getElem_toArray, List.getElem_cons_zero, List.getElem_cons_succ, List.setIfInBounds_toArray, List.set_cons_zero, List.set_cons_succ])
          refine wpAnyH_ready (rs := [12]) (by kernel_rfl) (by simp) ?_
          refine AllReadyH.cons rfl (fun K hK => ?_) AllReadyH.nil
          have ⟨u1, c1, f1, _⟩ := OwnR.cellAt F3_O.out HLEN.out k HKN.out
          go_simp
          refine hK.out _ _ (grownSet hHeld _ _) (fun hHeld => ?_)
          clear hK K
          (try simp only [Act.put])
          refine' wpAnyH_take (i := 13) (v := _) rfl (by kernel_rfl) (by kernel_rfl) (by kernel_rfl) (fun _ _ _ h => h) (Or.inl ⟨by rfl, ?hy20011⟩) (by assumption) ?rest20011
          case hy20011 =>
            intro w h
            have g0 := HJ0.out
            have g1 := HJ1N.out
            (try clear h)
            go_simp
            (try with_reducible rfl)
          (try simp only [Act.put, List.getElem_toArray, List.getElem_cons_zero, List.getElem_cons_succ, List.setIfInBounds_toArray, List.set_cons_zero, List.set_cons_succ])
          refine wpAnyH_ready (rs := [14]) (by kernel_rfl) (by simp) ?_
          refine AllReadyH.cons rfl (fun K hK => ?_) AllReadyH.nil
          have ⟨u2, c2, f2, _⟩ := OwnR.cellAt F3_O.out HLEN.out nk HJN.out
          have hne := HNE.out
          go_simp
          refine hK.out _ _ (grownSet hHeld _ _) (fun hHeld => ?_)
          clear hK K
          (try simp only [Act.put])
          refine wpAnyH_done (by kernel_rfl) ?_ _
          have hlo := (GP.out.lt _ rfl)
          have hlp : gO < _ := hlo.2
          have S1 := GP.out.stored HLEN.out HBP.out (Nat.le_of_lt hlp) HR1.out k HKN.out
          have hla : gO < _ := (GA.out.lt _ rfl).2
          have hbb := Below.both HBA.out (i := k) (u := .slice ra1 P1.length rc1) hla
          have S2 := S1.stored (by rw [List.length_set]; exact HLEN.out) hbb (by simpa using Nat.le_of_lt hla) (by simpa using HR2.out.awayAt hla) nk (by rw [List.length_set]; exact HJN.out)
          rw [HSTk.out] at S2
          have HS2 := Lib.hid S2
          have HF2 := Lib.hid (AllAt.block (w' := (d3.setCell ⟨gO, k, none⟩ (.slice ra1 P1.length rc1)).setCell ⟨gO, nk, none⟩ (.slice ra2 Q1.length rc2)) F3_F.out ((heap_setCell_other (d3.setCell ⟨gO, k, none⟩ (.slice ra1 P1.length rc1)) ⟨gO, nk, none⟩ gC _ NCO.out).trans (heap_setCell_other d3 ⟨gO, k, none⟩ gC _ NCO.out)) (by simpa using F3_F.out.lt))
          have HB2 := Lib.hid (show Below w.heap.size w ((d3.setCell ⟨gO, k, none⟩ (.slice ra1 P1.length rc1)).setCell ⟨gO, nk, none⟩ (.slice ra2 Q1.length rc2)) from belows (belows F3_B.out LOG.out _) LOG.out _)
          clear S1 S2 hbb hla hlp hlo
          go_wp2_with fail
          go_roundw
          case rel => exact ⟨k + 1, by omega, by go_num, HF2.out, HS2.out, HB2.out⟩
          case measure => simp [intOf]; omega
          
          
      · have hzz := ZZ.out
        go_simp
        obtain ⟨d2, hdw⟩ : ∃ w', w' = d1.alloc (.cells Z 61) := ⟨_, rfl⟩
        rw [← hdw]
        have hb : Below d1.heap.size d1 d2 := by rw [hdw]; exact belowa (Below.refl _ _) _
        obtain ⟨t8, ht8⟩ : ∃ g, g = d1.heap.size := ⟨_, rfl⟩
        rw [← ht8]
        have F2_BQ := Lib.hid (joins F1_BQ.out hb)
        have F2_T8 := Lib.hid (show d2.heap[t8]? = some (.cells Z 61 (0, 0)) from by rw [hdw, ht8]; exact heap_alloc_new _ _)
        have Lt8 := Lib.hid (show wq.heap.size ≤ t8 from by rw [ht8]; exact hHeld.size)
        have hHeld := grownB hHeld hb
        clear hzz hdw hb ht8
        refine hK.out _ _ hHeld (fun hHeld => ?_)
        clear hK K
        (try simp only [Act.put, List.getElem_toArray, List.getElem_cons_zero, List.getElem_cons_succ, List.setIfInBounds_toArray, List.set_cons_zero, List.set_cons_succ])
        refine wpAnyH_ready (rs := [2]) (by kernel_rfl) (by simp) ?_
        refine AllReadyH.cons rfl (fun K hK => ?_) AllReadyH.nil
        go_simp
        refine (HTU.out k hlt _).mono ?_
        rintro e d3 ⟨rfl, hb⟩
        have F3_BQ := Lib.hid (joins F2_BQ.out hb)
        have F3_T8 := Lib.hid (rowB F2_T8.out hb)
        have hHeld := grownB hHeld hb
        clear hb
        refine hK.out _ _ hHeld (fun hHeld => ?_)
        clear hK K
        (try simp only [Act.put, List.getElem_toArray, List.getElem_cons_zero, List.getElem_cons_succ, List.setIfInBounds_toArray, List.set_cons_zero, List.set_cons_succ])
        refine wpAnyH_ready (rs := [3]) (by kernel_rfl) (by simp) ?_
        refine AllReadyH.cons rfl (fun K hK => ?_) AllReadyH.nil
        go_simp
        refine (HJ2.out k hlt _).mono ?_
        rintro e d4 ⟨rfl, hb⟩
        have F4_BQ := Lib.hid (joins F3_BQ.out hb)
        have F4_T8 := Lib.hid (rowB F3_T8.out hb)
        have hHeld := grownB hHeld hb
        clear hb
        refine hK.out _ _ hHeld (fun hHeld => ?_)
        clear hK K
        (try simp only [Act.put, List.getElem_toArray, List.getElem_cons_zero, List.getElem_cons_succ, List.setIfInBounds_toArray, List.set_cons_zero, List.set_cons_succ])
        refine' wpAnyH_take (i := 4) (v := _) rfl (by kernel_rfl) (by kernel_rfl) (by kernel_rfl) (fun _ _ _ h => h) (Or.inl ⟨by rfl, ?hy311⟩) (by assumption) ?rest311
        case hy311 =>
          intro w h
          (try clear h)
          go_simp
          (try with_reducible rfl)
        (try simp only [Act.put, List.getElem_toArray, List.getElem_cons_zero, List.getElem_cons_succ, List.setIfInBounds_toArray, List.set_cons_zero, List.set_cons_succ])
        refine' wpAnyH_take (i := 5) (v := _) rfl (by kernel_rfl) (by kernel_rfl) (by kernel_rfl) (fun _ _ _ h => h) (Or.inl ⟨by rfl, ?hy312⟩) (by assumption) ?rest312
        case hy312 =>
          intro w h
          (try clear h)
          go_simp
          (try with_reducible rfl)
        (try simp only [Act.put, List.getElem_toArray, List.getElem_cons_zero, List.getElem_cons_succ, List.setIfInBounds_toArray, List.set_cons_zero, List.set_cons_succ])
        refine' wpAnyH_take (i := 6) (v := _) rfl (by kernel_rfl) (by kernel_rfl) (by kernel_rfl) (fun _ _ _ h => h) (Or.inl ⟨by rfl, ?hy313⟩) (by assumption) ?rest313
        case hy313 =>
          intro w h
          (try clear h)
          go_simp
          (try with_reducible rfl)
        (try simp only [Act.put, List.getElem_toArray, List.getElem_cons_zero, List.getElem_cons_succ, List.setIfInBounds_toArray, List.set_cons_zero, List.set_cons_succ])
        refine wpAnyH_ready (rs := [8]) (by kernel_rfl) (by simp) ?_
        refine AllReadyH.cons rfl (fun K hK => ?_) AllReadyH.nil
        rw [if_pos (by rfl)]
        refine wp_put_row 61 (.tmp 8) (.tmp 32) rfl (t8) (QQ k) rfl rfl 61 Z F4_T8.out 33 infoPh (HSQ.out k) SZZ.out (HOQ.out k) wq.heap.size wq F4_BQ.out (Nat.le_trans BQ0.out.size Lt8.out) ?_
        intro d5 hr hs hb
        have F5_T8 := Lib.hid hr
        have F5_BQ := Lib.hid hb
        have hHeld := grownPut hHeld hs hb F4_BQ.out Lt8.out
        clear hr hs hb
        refine hK.out _ _ hHeld (fun hHeld => ?_)
        clear hK K
        (try simp only [Act.put])
        refine' wpAnyH_take (i := 9) (v := _) rfl (by kernel_rfl) (by kernel_rfl) (by kernel_rfl) (fun _ _ _ h => h) (Or.inl ⟨by rfl, ?hy314⟩) (by assumption) ?rest314
        case hy314 =>
          intro w h
          (try clear h)
          go_simp
          (try with_reducible rfl)
        (try simp only [Act.put, List.getElem_toArray, List.getElem_cons_zero, List.getElem_cons_succ, List.setIfInBounds_toArray, List.set_cons_zero, List.set_cons_succ])
        refine wpAnyH_done (by kernel_rfl) ?_ _
        have hbq := F5_BQ.out
        have RT8 := F5_T8
        have L8 := Lt8
        obtain ⟨wz, hwz⟩ : ∃ w', w' = d5 := ⟨_, rfl⟩
        rw [← hwz] at hbq RT8 ⊢
        have RT6z := Lib.hid (rowB RT6.out hbq)
        have FZ := Lib.hid (F4.out.below hbq)
        have OZ := Lib.hid (O4.out.below hbq)
        have BZ := Lib.hid (joins B4.out hbq)
        have NE8 := Lib.hid (show gO ≠ t8 from by have := L8.out; have := NE6L.out; omega)
        clear hwz hbq hHeld
        go_wp2_with fail
        refine wp_region_held_drew (S := (fun w' => World.grownBy wz w' (some (gO)))) (by kernel_rfl) (grownDrew (World.grownBy.refl _ _)) ?_
        obtain ⟨d1, hdw⟩ : ∃ w', w' = wz.drew := ⟨_, rfl⟩
        rw [← hdw]
        have hb : Below wz.heap.size wz d1 := by rw [hdw]; exact belowN (Below.refl _ _) 1
        have F1_O := Lib.hid (OZ.out.below hb)
        have F1_B := Lib.hid (joins BZ.out hb)
        have F1_F := Lib.hid (FZ.out.below hb)
        clear hdw hb
        intro hHeld
        refine' wpAnyH_take (i := 0) (v := _) rfl (by kernel_rfl) (by kernel_rfl) (by kernel_rfl) (fun _ _ _ h => h) (Or.inl ⟨by rfl, ?hy30001⟩) (by assumption) ?rest30001
        case hy30001 =>
          intro w h
          (try clear h)
          go_simp
          (try with_reducible rfl)
        (try simp only [Act.put, List.getElem_toArray, List.getElem_cons_zero, List.setIfInBounds_toArray, List.set_cons_zero, List.set_cons_succ])
        refine' wpAnyH_take (i := 1) (v := _) rfl (by kernel_rfl) (by kernel_rfl) (by kernel_rfl) (fun _ _ _ h => h) (Or.inl ⟨by rfl, ?hy30002⟩) (by assumption) ?rest30002
        case hy30002 =>
          intro w h
          (try clear h)
          go_simp
          (try with_reducible rfl)
        (try simp only [Act.put, List.getElem_toArray, List.getElem_cons_zero, List.getElem_cons_succ, List.setIfInBounds_toArray, List.set_cons_zero, List.set_cons_succ])
        refine' wpAnyH_take (i := 2) (v := _) rfl (by kernel_rfl) (by kernel_rfl) (by kernel_rfl) (fun _ _ _ h => h) (Or.inl ⟨by rfl, ?hy30003⟩) (by assumption) ?rest30003
        case hy30003 =>
          intro w h
          (try clear h)
          go_simp
          (try with_reducible rfl)
        (try simp only [Act.put, List.getElem_toArray, List.getElem_cons_zero, List.getElem_cons_succ, List.setIfInBounds_toArray, List.set_cons_zero, List.set_cons_succ])
        refine' wpAnyH_take (i := 3) (v := _) rfl (by kernel_rfl) (by kernel_rfl) (by kernel_rfl) (fun _ _ _ h => h) (Or.inl ⟨by rfl, ?hy30004⟩) (by assumption) ?rest30004
        case hy30004 =>
          intro w h
          (try clear h)
          go_simp
          (try with_reducible rfl)
        (try simp only [Act.put, List.getElem_toArray, List.getElem_cons_zero, List.getElem_cons_succ, List.setIfInBounds_toArray, List.set_cons_zero, List.set_cons_succ])
        refine' wpAnyH_take (i := 4) (v := _) rfl (by kernel_rfl) (by kernel_rfl) (by kernel_rfl) (fun _ _ _ h => h) (Or.inl ⟨by rfl, ?hy30005⟩) (by assumption) ?rest30005
        case hy30005 =>
          intro w h
          (try clear h)
          go_simp
          (try with_reducible rfl)
        (try simp only [Act.put, List.getElem_toArray, List.getElem_cons_zero, List.getElem_cons_succ, List.setIfInBounds_toArray, List.set_cons_zero, List.set_cons_succ])
        refine' wpAnyH_take (i := 5) (v := _) rfl (by kernel_rfl) (by kernel_rfl) (by kernel_rfl) (fun _ _ _ h => h) (Or.inl ⟨by rfl, ?hy30006⟩) (by assumption) ?rest30006
        case hy30006 =>
          intro w h
          (try clear h)
          go_simp
          (try with_reducible rfl)
        (try simp only [Act.put, List.getElem_toArray, List.getElem_cons_zero, List.getElem_cons_succ, List.setIfInBounds_toArray, List.set_cons_zero, List.set_cons_succ])
        refine' wpAnyH_take (i := 6) (v := _) rfl (by kernel_rfl) (by kernel_rfl) (by kernel_rfl) (fun _ _ _ h => h) (Or.inl ⟨by rfl, ?hy30007⟩) (by assumption) ?rest30007
        case hy30007 =>
          intro w h
          have e1 := HADI.out
          (try clear h)
          go_simp
          (try with_reducible rfl)
        (try simp only [Act.put, List.getElem_toArray, List.getElem_cons_zero, List.getElem_cons_succ, List.setIfInBounds_toArray, List.set_cons_zero, List.set_cons_succ])
        refine' wpAnyH_take (i := 7) (v := _) rfl (by kernel_rfl) (by kernel_rfl) (by kernel_rfl) (fun _ _ _ h => h) (yieldsPart (by rfl) 61 (.tmp 6) rfl (w33.heap.size) 0 rfl (PP k) (PP k) 61 (0, 0) _ (fun w h => rowG8 RT6z.out h (fun e => NE6.out (Option.some.inj e))) (Part.self _) Try.underlying61 rfl (HIP.out k)) (by assumption) ?rest30008
        (try simp only [Act.put, List.getElem_toArray, List.getElem_cons_zero, List.getElem_cons_succ, List.setIfInBounds_toArray, List.set_cons_zero, List.set_cons_succ])
        refine' wpAnyH_take (i := 9) (v := _) rfl (by kernel_rfl) (by kernel_rfl) (by kernel_rfl) (fun _ _ _ h => h) (yieldsPart (by rfl) 61 (.tmp 8) rfl (t8) 0 rfl (QQ k) (QQ k) 61 (0, 0) _ (fun w h => rowG8 RT8.out h (fun e => NE8.out (Option.some.inj e))) (Part.self _) Try.underlying61 rfl (HIQ.out k)) (by assumption) ?rest30009
        (try simp only [Act.put, List.getElem_toArray, List.getElem_cons_zero, List.getElem_cons_succ, List.setIfInBounds_toArray, List.set_cons_zero, List.set_cons_succ])
        refine wpAnyH_ready (rs := [8]) (by kernel_rfl) (by simp) ?_
        refine AllReadyH.cons rfl (fun K hK => ?_) AllReadyH.nil
        go_simp
        refine (HLPk.out _).mono ?_
        rintro e d2 ⟨r1, rfl, ho, hb⟩
        have F2_O := Lib.hid (F1_O.out.below hb)
        have F2_B := Lib.hid (joins F1_B.out hb)
        have F2_F := Lib.hid (F1_F.out.below hb)
        obtain ⟨ra1, rc1, hre1⟩ := ho.is.sl
        subst hre1
        have GP := F1_O
        have HBP := Lib.hid hb
        have HR1 := Lib.hid ho
        have hHeld := grownB hHeld hb
        clear hb
        refine hK.out _ _ hHeld (fun hHeld => ?_)
        clear hK K
        (try simp only [Act.put, List.getElem_toArray, List.getElem_cons_zero, List.getElem_cons_succ, List.setIfInBounds_toArray, List.set_cons_zero, List.set_cons_succ])
        refine wpAnyH_ready (rs := [10]) (by kernel_rfl) (by simp) ?_
        refine AllReadyH.cons rfl (fun K hK => ?_) AllReadyH.nil
        go_simp
        refine (HLQk.out _).mono ?_
        rintro e d3 ⟨r2, rfl, ho, hb⟩
        have F3_O := Lib.hid (F2_O.out.below hb)
        have F3_B := Lib.hid (joins F2_B.out hb)
        have F3_F := Lib.hid (F2_F.out.below hb)
        obtain ⟨ra2, rc2, hre2⟩ := ho.is.sl
        subst hre2
        have GA := F2_O
        have HBA := Lib.hid hb
        have HR2 := Lib.hid ho
        have hHeld := grownB hHeld hb
        clear hb
        refine hK.out _ _ hHeld (fun hHeld => ?_)
        clear hK K
        (try simp only [Act.put, List.getElem_toArray, List.getElem_cons_zero, List.getElem_cons_succ, List.setIfInBounds_toArray, List.set_cons_zero, List.set_cons_succ])
        refine' wpAnyH_take (i := 11) (v := _) rfl (by kernel_rfl) (by kernel_rfl) (by kernel_rfl) (fun _ _ _ h => h) (Or.inl ⟨by rfl, ?hy30010⟩) (by assumption) ?rest30010
        case hy30010 =>
          intro w h
          have g0 := HK0.out
          have g1 := HK1.out
          (try clear h)
          go_simp
          (try with_reducible rfl)
        (try simp only [Act.put, List.getElem_toArray, List.getElem_cons_zero, List.getElem_cons_succ, List.setIfInBounds_toArray, List.set_cons_zero, List.set_cons_succ])
        refine wpAnyH_ready (rs := [12]) (by kernel_rfl) (by simp) ?_
        refine AllReadyH.cons rfl (fun K hK => ?_) AllReadyH.nil
        have ⟨u1, c1, f1, _⟩ := OwnR.cellAt F3_O.out HLEN.out k HKN.out
        go_simp
        refine hK.out _ _ (grownSet hHeld _ _) (fun hHeld => ?_)
        clear hK K
        (try simp only [Act.put])
        refine' wpAnyH_take (i := 13) (v := _) rfl (by kernel_rfl) (by kernel_rfl) (by kernel_rfl) (fun _ _ _ h => h) (Or.inl ⟨by rfl, ?hy30011⟩) (by assumption) ?rest30011
        case hy30011 =>
          intro w h
          have g0 := HJ0.out
          have g1 := HJ1N.out
          (try clear h)
          go_simp
          (try with_reducible rfl)
        (try simp only [Act.put, List.getElem_toArray, List.getElem_cons_zero, List.getElem_cons_succ, List.setIfInBounds_toArray, List.set_cons_zero, List.set_cons_succ])
        refine wpAnyH_ready (rs := [14]) (by kernel_rfl) (by simp) ?_
        refine AllReadyH.cons rfl (fun K hK => ?_) AllReadyH.nil
        have ⟨u2, c2, f2, _⟩ := OwnR.cellAt F3_O.out HLEN.out nk HJN.out
        have hne := HNE.out
        go_simp
        refine hK.out _ _ (grownSet hHeld _ _) (fun hHeld => ?_)
        clear hK K
        (try simp only [Act.put])
        refine wpAnyH_done (by kernel_rfl) ?_ _
        have hlo := (GP.out.lt _ rfl)
        have hlp : gO < _ := hlo.2
        have S1 := GP.out.stored HLEN.out HBP.out (Nat.le_of_lt hlp) HR1.out k HKN.out
        have hla : gO < _ := (GA.out.lt _ rfl).2
        have hbb := Below.both HBA.out (i := k) (u := .slice ra1 P1.length rc1) hla
        have S2 := S1.stored (by rw [List.length_set]; exact HLEN.out) hbb (by simpa using Nat.le_of_lt hla) (by simpa using HR2.out.awayAt hla) nk (by rw [List.length_set]; exact HJN.out)
        rw [HSTk.out] at S2
        have HS2 := Lib.hid S2
        have HF2 := Lib.hid (AllAt.block (w' := (d3.setCell ⟨gO, k, none⟩ (.slice ra1 P1.length rc1)).setCell ⟨gO, nk, none⟩ (.slice ra2 Q1.length rc2)) F3_F.out ((heap_setCell_other (d3.setCell ⟨gO, k, none⟩ (.slice ra1 P1.length rc1)) ⟨gO, nk, none⟩ gC _ NCO.out).trans (heap_setCell_other d3 ⟨gO, k, none⟩ gC _ NCO.out)) (by simpa using F3_F.out.lt))
        have HB2 := Lib.hid (show Below w.heap.size w ((d3.setCell ⟨gO, k, none⟩ (.slice ra1 P1.length rc1)).setCell ⟨gO, nk, none⟩ (.slice ra2 Q1.length rc2)) from belows (belows F3_B.out LOG.out _) LOG.out _)
        clear S1 S2 hbb hla hlp hlo
        go_wp2_with fail
        go_roundw
        case rel => exact ⟨k + 1, by omega, by go_num, HF2.out, HS2.out, HB2.out⟩
        case measure => simp [intOf]; omega
        
        
    · obtain rfl : k = n := by omega
      rw [HSE.out] at RO
      go_wp2_with fail
      go_returns
      exact ⟨_, rfl, RO.out.mono (by rw [HGO.out]; exact Nat.le_refl _), BR.out⟩
theorem tot_rows8 (ll : List (List Int)) (L : Nat) (h : ∀ l ∈ ll, l.length ≤ L) : tot ll ≤ ll.length * L := by
  induction ll with
  | nil => simp [tot]
  | cons l t ih =>
    have h1 := ih (fun x hx => h x (List.mem_cons_of_mem _ hx))
    have h2 := h l List.mem_cons_self
    simp only [tot, List.length_cons, Nat.succ_mul]
    omega
theorem exF_tot (m : List (List Int)) : tot (exF m) ≤ 1048576 := by
  unfold exF
  by_cases h : exB m = true
  · rw [if_pos h]
    have hx := h
    unfold exB at hx
    simp only [Bool.and_eq_true, decide_eq_true_eq] at hx
    have hc := hx.1.1
    have h4 := hx.1.2
    have ht := tot_rows8 (exL m) 64 (fun l hl => by
      unfold exL at hl
      rcases List.mem_append.1 hl with h1 | h1
      · obtain ⟨s, hs, rfl⟩ := List.mem_map.1 h1
        obtain ⟨i, hi, rfl⟩ := List.getElem_of_mem hs
        have h2 := (cdsOk_seqs hc i hi).1
        rw [getD_at m i hi] at h2
        have := isSeq_len h2
        unfold exP; rw [List.length_append]; omega
      · obtain ⟨s, hs, rfl⟩ := List.mem_map.1 h1
        obtain ⟨i, hi, rfl⟩ := List.getElem_of_mem hs
        have h2 := (cdsOk_seqs hc i hi).1
        rw [getD_at m i hi] at h2
        have := isSeq_len h2
        unfold exQ turnG; rw [List.length_append, gen_length]; omega)
    have hl : (exL m).length = 2 * m.length := by unfold exL; simp; omega
    omega
  · rw [if_neg h]; simp [tot]
theorem kOf_eq {b : Bool} (h : kOf b = 0) : b = true := by cases b with | true => rfl | false => cases h
theorem kOf_ne {b : Bool} (h : kOf b ≠ 0) : b = false := by cases b with | true => exact absurd rfl h | false => rfl
set_option maxRecDepth 100000 in
set_option maxHeartbeats 4000000 in
theorem extendCodes1_any (v : Value) (m : List (List Int)) (p : Addr) (w : World) (hp : w.cell? p = some v) (hv : IR w v m) (hlen : sz2 m ≤ 1048576) :
    Calls Try.prog 54 #[.pointer (some p)] w (Tries w (kOf (exB m)) (fun B v w => OwnR w B v (exL m))) := by
  have hdef : exB m = (cdsOk m && decide (m.length ≤ 4) && hasB8 [1, 2, 4, 8] (cdN m)) := rfl
  have HC := Lib.hid (codesFrom_any v m w hv hlen)
  have HR1 := Lib.hid (fun (h : kOf (cdsOk m) ≠ 0) => show kOf (exB m) ≠ 0 ∧ Ending.panicked [rfs (kOf (cdsOk m))] = .panicked [rfs (kOf (exB m))] by
    rw [hdef, kOf_ne h, Bool.false_and, Bool.false_and]; exact ⟨by decide, rfl⟩)
  have HKN := Lib.hid (fun (h : exB m = false) => show kOf (exB m) = 1 by rw [h]; rfl)
  have HDF := Lib.hid hdef
  have HID := Lib.hid (isDoubled_any (cdN m))
  have HSQ := Lib.hid (fun h i hi => cdsOk_seqs (m := m) h i hi)
  have HLN := Lib.hid (fun h => cdsOk_len (m := m) h)
  have HDB := Lib.hid (fun (hc : cdsOk m = true) (h4 : m.length ≤ 4) (hh : hasB8 [1, 2, 4, 8] (cdN m : Int) = true) (gC : Nat) (w1 : World) (hall : AllAt w1 gC 33 m.length (cdD m) m.length) => doubled_any gC m w1 hall (fun i hi => by
    have h := cdsOk_seqs hc i hi
    refine ⟨h.1, ?_⟩
    rw [h.2]
    unfold hasB8 at hh
    have := of_decide_eq_true hh
    simp at this
    omega) h4)
  have HC32 := Lib.hid (fun (hc : cdsOk m = true) (gC : Nat) (w1 : World) (hall : AllAt w1 gC 33 m.length (cdD m) m.length) => show w1.cell? ⟨gC, 32, none⟩ = some (.int .i64 (cdN m)) from by
    have h0 := cdsOk_len hc
    have h := cdsOk_seqs hc 0 (by omega)
    have := phC_len (m.getD 0 [])
    rw [show sqz (m.getD 0 []) = m.getD 0 [] by unfold sqz; rw [h.1]; rfl, h.2] at this
    have h2 := hall.cellOf (x := 0) (j := 32) (by omega) this
    simpa using h2)
  have HCA := Lib.hid (show ∀ B v w, CodesAt m B v w → ∃ g, v = .slice (some ⟨g, 0, none⟩) m.length m.length ∧ B ≤ g ∧ AllAt w g 33 m.length (cdD m) m.length from fun B v w h => h)
  obtain ⟨pa, cap, rfl⟩ := hv.slice
  obtain ⟨N, hN⟩ : ∃ n, n = cdN m := ⟨_, rfl⟩
  rw [← hN] at HDF HID HDB HC32
  obtain ⟨n, hn⟩ : ∃ n, n = m.length := ⟨_, rfl⟩
  rw [← hn] at HDF HLN HDB HC32 HCA
  clear hdef hv hN hn HSQ
  go_enter Try.func54, Try.ntmps54
  go_wp2_with fail
  refine (HC.out).mono ?_
  rintro e w1 ⟨hb, ⟨hk, v1, rfl, hcs⟩ | ⟨hk, rfl⟩⟩
  case inr => exact ⟨rfl, hb, Or.inr (HR1.out hk)⟩
  obtain ⟨gC, rfl, hgC, hall⟩ := HCA.out _ _ _ hcs
  have hc := kOf_eq hk
  have c32 := HC32.out hc gC _ hall
  have h0 := HLN.out hc
  have HCC := Lib.hid hc
  have HB := Lib.hid hb
  have HAL := Lib.hid hall
  clear hb hcs hall hk hc
  have hn0 : 0 < n := by omega
  have hn0i : (0 : Int) < (n : Int) := by omega
  by_cases h4 : n ≤ 4
  case neg =>
    have h4i : ¬ (n : Int) ≤ 4 := by omega
    have hK := HKN.out (by rw [HDF.out, decide_eq_false h4, Bool.and_false]; rfl)
    go_wp2_with fail
    refine (require_no _).mono ?_
    rintro e w' ⟨rfl, rfl⟩
    exact ⟨rfl, HB.out, Or.inr ⟨by rw [hK]; decide, by rw [hK]⟩⟩
  have h4i : (n : Int) ≤ 4 := by omega
  go_wp2_with fail
  refine (HID.out _).mono ?_
  rintro e w' ⟨rfl, rfl⟩
  cases hh : hasB8 [1, 2, 4, 8] (N : Int) with
  | false =>
    have hK := HKN.out (by rw [HDF.out, hh, Bool.and_false])
    go_wp2_with fail
    refine (require_no _).mono ?_
    rintro e w' ⟨rfl, rfl⟩
    exact ⟨rfl, HB.out, Or.inr ⟨by rw [hK]; decide, by rw [hK]⟩⟩
  | true =>
  have hK := Lib.hid (show kOf (exB m) = 0 by rw [HDF.out, HCC.out, decide_eq_true h4, hh]; rfl)
  have HD := Lib.hid (HDB.out HCC.out h4 hh gC _ HAL.out)
  clear hh c32
  go_wp2_with fail
  refine (require_yes _).mono ?_
  rintro e w' ⟨rfl, rfl⟩
  go_wp2_with fail
  refine (HD.out).mono ?_
  rintro e w3 ⟨v3, rfl, ho, hb⟩
  have HB3 := Lib.hid (joins HB.out hb)
  have HO3 := Lib.hid (ho.mono HB.out.size)
  clear ho hb
  go_wp2_with fail
  go_returns
  exact ⟨HB3.out, Or.inl ⟨hK.out, _, rfl, HO3.out⟩⟩
set_option maxRecDepth 100000 in
set_option maxHeartbeats 2000000 in
theorem iExtendCodes (va : Value) (m : List (List Int)) (w : World) (h_va : IR w va m) (b_va : sz2 m ≤ 1048576) :
    Calls Try.prog 26 #[va] w (MakesRB w (exF m) (exB m)) := by
  have hmf : ∀ (fn : Fn) (first cap : Array Value) (w : World), (Instr.makeFunc fn first cap).run Try.prog w = .ok (.func fn first cap) w := fun _ _ _ _ => rfl
  have hk0 : kOf (exB m) = 0 → exF m = exL m := fun h => by unfold exF; rw [kOf_eq h]; rfl
  have hk1 : kOf (exB m) ≠ 0 → exF m = [] := fun h => by unfold exF; rw [kOf_ne h]; rfl
  have hkz : (kOf (exB m) == 0) = exB m := kOf_zero
  obtain ⟨wb0, hwb0⟩ : ∃ w', w' = w.alloc (.cells #[va] 22) := ⟨_, rfl⟩
  have HB0 := Lib.hid (show Below w.heap.size w wb0 by rw [hwb0]; exact belowa (Below.refl _ _) _)
  have HS0 := Lib.hid (show wb0.heap.size = w.heap.size + 1 by rw [hwb0]; simp)
  have hc0_0 : wb0.cell? ⟨w.heap.size, 0, none⟩ = some (va) := by rw [hwb0]; simp [go_sem]
  have HC0_0 := Lib.hid hc0_0
  have HSH := Lib.hid (sharedM 54 #[.pointer (some ⟨w.heap.size, 0, none⟩)] (fun w => by simp [go_sem]) (kOf (exB m)) _ (lasts_rows (exL m)) wb0 (fun w2 hb2 => extendCodes1_any va m _ w2 (keepc hb2 HC0_0.out) (h_va.below (joins HB0.out hb2)) b_va))
  have HK0 := Lib.hid hk0
  have HK1 := Lib.hid hk1
  have HKZ := Lib.hid hkz
  obtain ⟨pa0, ca0, rfl⟩ := h_va.slice
  obtain ⟨LL, hLL⟩ : ∃ L, L = exL m := ⟨_, rfl⟩
  obtain ⟨FF, hFF⟩ : ∃ L, L = exF m := ⟨_, rfl⟩
  obtain ⟨BB, hBB⟩ : ∃ L, L = exB m := ⟨_, rfl⟩
  obtain ⟨KK, hKK⟩ : ∃ L, L = kOf (exB m) := ⟨_, rfl⟩
  rw [← hKK] at HSH HK0 HK1 HKZ
  rw [← hBB] at HKZ
  rw [← hLL] at HSH HK0
  rw [← hFF] at HK0 HK1
  rw [← hFF, ← hBB]
  clear hk0 hk1 hkz hKK hLL hFF hBB h_va hc0_0
  go_enter Try.func26, Try.ntmps26
  go_wp2_with fail
  rw [← hwb0]
  clear hwb0
  refine (HSH.out).mono ?_
  rintro e w1 ⟨hb, v, rfl, h⟩
  have HB := Lib.hid (joins HB0.out hb)
  have HH := Lib.hid (show OwnR w1 w.heap.size v FF from by
    rcases h with ⟨hk, h⟩ | ⟨hk, rfl⟩
    · rw [HK0.out hk]; exact OwnR.mono h (by rw [HS0.out]; omega)
    · rw [HK1.out hk]; exact OwnR.nil _ _)
  rw [HKZ.out]
  clear h hb
  go_wp2_with fail
  go_returns
  exact ⟨_, rfl, HH.out, HB.out⟩
end Go.Proofs.Ytapmehgdnofgnaa
