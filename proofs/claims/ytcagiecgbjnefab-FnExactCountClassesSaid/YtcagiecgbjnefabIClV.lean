/- The program's least, listsOf, OrbitOf, LeastOf, AreEquivalent. -/
import Derived.Test.YtcagiecgbjnefabIClT
namespace Go.Proofs.Ytcagiecgbjnefab
set_option maxRecDepth 100000
open Go.RowKit

theorem load_seq9 {ops : Array Oper} {rest : List Oper} {op : Oper} {a : Act} {w : World} {Q : Exit → Act → World → Prop} (hgd : op.guard = none) (x : Operand) (ho : op.op = .load 47 x)
    (g o : Nat) (hx : a.eval x = .pointer (some ⟨g, o, none⟩)) (C : Array Value) (hc : w.rangeAt g o C.toList) (hs : C.size = 33)
    (h : wpList Try.prog ops Q rest (a.put op.dst (.agg C)) w) : wpList Try.prog ops Q (op :: rest) a w := by
  have := wpList_load_mid (P := Try.prog) (ops := ops) (rest := rest) (op := op) (a := a) (w := w) (Q := Q) hgd 47 x ho g o hx C.toList _ hc Try.underlying47 rfl (by rw [Array.length_toList, hs]; exact infoPh)
  rw [Array.toArray_toList] at this
  exact this h

set_option maxRecDepth 100000 in
set_option maxHeartbeats 4000000 in
theorem least_any (n : Nat) (hn : n ≤ 15) (R : List (List Int)) (hR : ∀ s ∈ R, isSeq s = true ∧ s.length = n) (hup : R.Pairwise (fun a b => rk a < rk b)) (hpos : 0 < R.length) (hlen : R.length ≤ 100000)
    (b nn : Nat) (M : DataW Unit) (w : World) (hown : w.ownsMap Try.prog 47 (plainElem (H := Unit) Try.prog 4) b nn M) (hk : KeysAre M (· ∈ R)) :
    Calls Try.prog 40 #[.map (some b)] w (Ret w (.agg (phC (R.getD 0 [])))) := by
  have HO := Lib.hid (fun w' (h : Below w.heap.size w w') => ordered_any n hn R hR hup hpos hlen b nn M w' (map_below hown h) hk)
  have ZZ := Lib.hid zeroPh
  have SZ := Lib.hid (phA_size z32 0 z32_length)
  obtain ⟨Z, hZ⟩ : ∃ Z, Z = phA z32 0 := ⟨_, rfl⟩
  rw [← hZ] at ZZ SZ
  have HP := Lib.hid hpos
  have hp0 : (0 : Int) < ((R.length : Nat) : Int) := by omega
  obtain ⟨C, hC⟩ : ∃ C, C = phC (R.getD 0 []) := ⟨_, rfl⟩
  have SC := Lib.hid (show C.size = 33 by rw [hC]; exact phC_size _)
  have OC := Lib.hid (show C.all (·.oneCell') = true by rw [hC]; exact phC_one _)
  have IC := Lib.hid (show (Try.prog.info? 47).map (·.size) = some C.size by rw [hC]; exact phC_info _)
  have HCE := Lib.hid hC
  rw [← hC]
  obtain ⟨m, hm⟩ : ∃ m, m = R.length := ⟨_, rfl⟩
  rw [← hm] at HO hp0
  clear hR hup hpos hlen hown hk hZ hC hm
  have B0 := Lib.hid (Below.refl w.heap.size w)
  go_enter Try.func40, Try.ntmps40
  go_wp2_with ((with_reducible refine at_op (d := some 2) (Op.alloc 47) ?_); refine wpList_alloc_row rfl 47 rfl Z ZZ.out ?_; intro w1 hr hb hz; have R1_r := Lib.hid hr; have B1 := Lib.hid (joins B0.out hb); have L1_r := Lib.hid (show w.heap.size ≤ w.heap.size from B0.out.size); clear hr hb hz)
  refine (HO.out _ B1.out).mono ?_
  rintro e w9 ⟨g, cap, rfl, hg, hsq, hb⟩
  have B9 := Lib.hid (joins B1.out hb)
  have R9_r := Lib.hid (rowB R1_r.out hb)
  have RG9 := Lib.hid (show w9.rangeAt g 0 C.toList from by have := hsq.2 0 HP.out; rw [Nat.zero_mul] at this; rw [HCE.out]; exact this)
  clear hsq hb hg
  go_wp2_with (first
    | ((with_reducible refine at_op (d := some 6) (Op.load 47 (.tmp 5)) ?_); refine load_seq9 rfl (.tmp 5) rfl g 0 rfl C RG9.out SC.out ?_)
    | ((with_reducible refine at_op (Op.store 47 (.tmp 2) (.tmp 6)) ?_); refine wpList_put_row rfl 47 (.tmp 2) (.tmp 6) rfl (w.heap.size) C rfl rfl 47 Z R9_r.out 33 infoPh SC.out SZ.out OC.out w.heap.size w B9.out L1_r.out ?_; intro w10 hr hs hb; have R10_r := Lib.hid hr; have B10 := Lib.hid hb; clear hr hs hb))
  refine bodyPost_ret (v := .agg C) ?_ rfl ⟨rfl, B10.out⟩
  exact results_cell_row Try.results40 _ _ (w.heap.size) 47 C (0, 0) _ rfl R10_r.out Try.underlying47 rfl IC.out

theorem SeqsAt.set {w : World} {g b i : Nat} {u : Value} {L : List (List Int)} (h : SeqsAt w g L) (hne : g ≠ b) : SeqsAt (w.setCell ⟨b, i, none⟩ u) g L :=
  ⟨by simpa using h.1, fun k hk j v hj => (World.cell?_of_block (heap_setCell_other w ⟨b, i, none⟩ g u hne)).trans (h.2 k hk j v hj)⟩
theorem rows_made (n : Nat) : (madeCells #[Value.slice none 0 0] n).toList = List.replicate n (Value.slice none 0 0) := by
  apply List.ext_getElem
  · simp [madeCells]
  · intro i h1 h2
    simp [madeCells, Nat.mod_one]
set_option maxRecDepth 100000 in
set_option maxHeartbeats 4000000 in
theorem listsOf_any (L : List (List Int)) (hL : ∀ s ∈ L, isSeq s = true) (hlen : L.length ≤ 100000) (g cap : Nat) (w : World) (hsq : SeqsAt w g L) :
    Calls Try.prog 36 #[.slice (some ⟨g, 0, none⟩) L.length cap] w (MakesR w L) := by
  obtain ⟨i0, hi, hz0, hz1, hz2⟩ := info_parts infoRow
  have HI0 := Lib.hid hi
  have HZ00 := Lib.hid hz0
  have HZ10 := Lib.hid hz1
  have HZ20 := Lib.hid hz2
  have ZZ := Lib.hid zeroPh
  have SZ := Lib.hid (phA_size z32 0 z32_length)
  obtain ⟨Z, hZ⟩ : ∃ Z, Z = phA z32 0 := ⟨_, rfl⟩
  rw [← hZ] at ZZ SZ
  have SC := Lib.hid phC_size
  have OC := Lib.hid phC_one
  have IC := Lib.hid phC_info
  have HLS := Lib.hid (fun k (hk : k < L.length) w => show Calls Try.prog 41 #[.agg (phC (L.getD k []))] w (Makes w (L.getD k [])) from by
    have hs : isSeq (L.getD k []) = true := hL _ (by rw [getD_at _ _ hk]; exact List.getElem_mem hk)
    have := list_any (padL (L.getD k [])) (L.getD k []).length (padL_length (isSeq_len hs)) (isSeq_len hs) w
    rwa [← phC_seq hs, pad_take] at this)
  have HSQ := Lib.hid hsq
  have HST := Lib.hid (fun k (hk : k < L.length) => show (L.take k ++ List.replicate (L.length - k) []).set k (L.getD k []) = L.take (k + 1) ++ List.replicate (L.length - (k + 1)) [] from by
    rw [List.set_append_right _ _ (by rw [List.length_take]; omega), List.length_take, Nat.min_eq_left (by omega), Nat.sub_self, show L.length - k = (L.length - (k + 1)) + 1 by omega, List.replicate_succ, List.set_cons_zero, show L.take (k + 1) = L.take k ++ [L[k]] from by rw [List.take_add_one, List.getElem?_eq_getElem hk]; rfl, List.append_assoc, getD_at _ _ hk]
    rfl)
  have HLL := Lib.hid (fun k (hk : k ≤ L.length) => show (L.take k ++ List.replicate (L.length - k) ([] : List Int)).length = L.length from by simp; omega)
  obtain ⟨n, hn⟩ : ∃ n, n = L.length := ⟨_, rfl⟩
  have HN := Lib.hid hn
  rw [← hn] at HLS HST HLL hlen ⊢
  clear hi hz0 hz1 hz2 hZ hL hsq hn
  go_enter Try.func36, Try.ntmps36
  go_wp2_with (at_make; refine wpList_make_full _ rfl _ _ 23 rfl w.heap.size 22 i0 (.slice none 0 0) 1 Try.underlying23 HI0.out HZ00.out HZ10.out _ _ _ _ n rfl rfl rfl rfl ?b2_1 ?b3_1 (Nat.le_refl _) ?_)
  case b2_1 => rw [HZ20.out]; omega
  case b3_1 => unfold maxLen; omega
  intro w1 hown0 hgrow0
  rw [rows_made] at hown0
  have B1 := Lib.hid ((Below.refl w.heap.size w).grown hgrow0 (Nat.le_refl _) (fun k h => by cases h))
  have O1 := Lib.hid (show OwnR w1 w.heap.size (.slice (some ⟨w.heap.size, 0, none⟩) n n) (L.take 0 ++ List.replicate (n - 0) []) from by simpa using OwnR.made hown0)
  have SQ1 := Lib.hid (HSQ.out.below B1.out)
  clear hown0 hgrow0
  go_wp2_with fail
  go_loopw [11] (fun i wr => ∃ k : Nat, k ≤ n ∧ i = .int .i64 k ∧ OwnR wr w.heap.size (.slice (some ⟨w.heap.size, 0, none⟩) n n) (L.take k ++ List.replicate (n - k) []) ∧ Below w.heap.size w wr ∧ SeqsAt wr g L) (fun i _ => n - (intOf i).toNat)
  case atStart => exact ⟨0, Nat.zero_le _, rfl, O1.out, B1.out, SQ1.out⟩
  case round =>
    obtain ⟨k, hk, rfl, hown, hbel, hseq⟩ := hrel
    have RO := Lib.hid hown
    have BR := Lib.hid hbel
    have SQ := Lib.hid hseq
    clear hown hbel hseq
    by_cases hlt : k < n
    · have h0 : (0 : Int) ≤ (k : Int) := by omega
      have h1 : (k : Int) < (n : Int) := by omega
      have HLk := Lib.hid (HLS.out k hlt)
      have HSk := Lib.hid (HST.out k hlt)
      have RGk := Lib.hid (SQ.out.2 k (by rw [← HN.out]; exact hlt))
      obtain ⟨l, hl⟩ : ∃ l, l = L.getD k [] := ⟨_, rfl⟩
      rw [← hl] at HLk HSk RGk
      clear hl
      have J0 := Lib.hid (Below.refl wr.heap.size wr)
      go_wp2_with (first
        | ((with_reducible refine at_op (d := some 15) (Op.load 47 (.tmp 14)) ?_); refine load_seq9 rfl (.tmp 14) rfl g (k * 33) rfl (phC l) RGk.out (SC.out l) ?_)
        | ((with_reducible refine at_op (d := some 5) (Op.alloc 47) ?_); refine wpList_alloc_row rfl 47 rfl Z ZZ.out ?_; intro w11 hr hb hz; have R11_p := Lib.hid hr; have L11_p := Lib.hid (show wr.heap.size ≤ wr.heap.size from Nat.le_refl _); have D11 := Lib.hid (hb); clear hr hb hz)
        | ((with_reducible refine at_op (Op.store 47 (.tmp 5) (.tmp 15)) ?_); refine wpList_put_row rfl 47 (.tmp 5) (.tmp 15) rfl (wr.heap.size) (phC l) rfl rfl 47 Z R11_p.out 33 infoPh (SC.out l) SZ.out (OC.out l) wr.heap.size wr D11.out L11_p.out ?_; intro w12 hr hs hb; have R12_p := Lib.hid hr; have F12_o := Lib.hid (OwnR.below RO.out hb); have F12_q := Lib.hid (SeqsAt.below SQ.out hb); have F12_j := Lib.hid (joins J0.out hb); have B12 := Lib.hid (joins BR.out hb); have L12_p := Lib.hid (Nat.le_trans BR.out.size L11_p.out); clear hr hs hb)
        | ((with_reducible refine at_op (d := some 18) (Op.load 47 (.tmp 5)) ?_); refine wpList_load_part rfl 47 (.tmp 5) rfl (wr.heap.size) 0 rfl (phC l) (phC l) 47 (0, 0) _ R12_p.out (Part.self _) Try.underlying47 rfl (IC.out l) ?_))
      go_wp2_with fail
      refine (HLk.out _).mono ?_
      rintro e w13 ⟨v_x, rfl, ho, hb⟩
      have R13_p := Lib.hid (rowB R12_p.out hb)
      have F13_o := Lib.hid (OwnR.below F12_o.out hb)
      have F13_q := Lib.hid (SeqsAt.below F12_q.out hb)
      have F13_j := Lib.hid (joins F12_j.out hb)
      have B13 := Lib.hid (joins B12.out hb)
      have O13_x := Lib.hid ho
      have LO_x := Lib.hid (show w.heap.size ≤ w12.heap.size from B12.out.size)
      clear ho
      clear hb
      obtain ⟨xa, xc, hxe⟩ := O13_x.out.is.sl
      subst hxe
      obtain ⟨uo, c1, c2, -⟩ := OwnR.cellAt F13_o.out (HLL.out k hk).symm k (by rw [HLL.out k hk]; exact hlt)
      have NEG := Lib.hid (show g ≠ w.heap.size from Nat.ne_of_lt HSQ.out.1)
      go_wp2_with fail
      go_roundw
      case rel =>
        have hs := OwnR.stored (RO.out) (HLL.out k hk).symm F13_j.out BR.out.size (O13_x.out.mono F12_j.out.size) k (by rw [HLL.out k hk]; exact hlt)
        rw [HSk.out] at hs
        exact ⟨k + 1, by omega, by go_num, hs, B13.out.setCell (Nat.le_refl _) _, SeqsAt.set F13_q.out NEG.out⟩
      case measure => simp [intOf]; omega
    · obtain rfl : k = n := by omega
      have HFI := Lib.hid (show OwnR wr w.heap.size (.slice (some ⟨w.heap.size, 0, none⟩) k k) L from by
        have := RO.out
        rw [Nat.sub_self, List.replicate_zero, List.append_nil, HN.out, List.take_length, ← HN.out] at this
        exact this)
      go_wp2_with fail
      go_returns
      exact ⟨_, rfl, HFI.out, BR.out⟩

set_option maxRecDepth 100000 in
set_option maxHeartbeats 4000000 in
theorem iOrbitOf (v : Value) (l : List Int) (w : World) (hv : IS w v l) (hl : l.length ≤ 1048576) : Calls Try.prog 12 #[v] w (MakesRB w (orF l) (ranked l)) := by
  have HRK := Lib.hid (fun w' (h : Below w.heap.size w w') => rankedOf_any v l w' (hv.below h) hl)
  have ZZ := Lib.hid zeroPh
  have SZ := Lib.hid (phA_size z32 0 z32_length)
  obtain ⟨Z, hZ⟩ : ∃ Z, Z = phA z32 0 := ⟨_, rfl⟩
  rw [← hZ] at ZZ SZ
  clear hZ
  have S_C0 := Lib.hid (phC_size (rkz l))
  have O_C0 := Lib.hid (phC_one (rkz l))
  have I_C0 := Lib.hid (phC_info (rkz l))
  have HORB := fun (h : ranked l = true) => orL_all l (ranked_seq h).1 64
  have HR := fun (h : ranked l = true) (s : List Int) (hs : s ∈ orL l 64) => show isSeq s = true ∧ s.length = l.length from ⟨((HORB h).1 s hs).2, ((HORB h).1 s hs).1⟩
  have HKS := fun (h : ranked l = true) {M : DataW Unit} (hk : KeysAre M (fun s => ∃ i, i < 64 ∧ s = clX i l)) => show KeysAre M (· ∈ orL l 64) from hk.same (fun s => ((HORB h).2.1 s).symm)
  have HCL := Lib.hid (fun (h : ranked l = true) w => classOf_any (rkz l) (rkz_seq l) w)
  have HOR := Lib.hid (fun (h : ranked l = true) b nn M w hown hk => ordered_any l.length (ranked_seq h).2 (orL l 64) (HR h) (HORB h).2.2 (orL_pos l 63) (by have := orL_len l 64; omega) b nn M w hown (HKS h hk))
  have HLS := Lib.hid (fun (h : ranked l = true) g cap w hsq => listsOf_any (orL l 64) (fun s hs => (HR h s hs).1) (by have := orL_len l 64; omega) g cap w hsq)
  have HZL := Lib.hid (fun (h : ranked l = true) => rkz_yes h)
  unfold orF
  obtain ⟨C0, h0⟩ : ∃ C, C = phC (rkz l) := ⟨_, rfl⟩
  rw [← h0] at S_C0 O_C0 I_C0 HRK HCL
  cases hr : ranked l with
  | false =>
    rw [hr] at HRK
    rw [if_neg (by decide)]
    clear hr h0 HORB HR HKS HCL HOR HLS HZL hv hl
    have B0 := Lib.hid (Below.refl w.heap.size w)
    go_enter Try.func12, Try.ntmps12
    go_wp2_with fail
    refine (HRK.out _ B0.out).mono ?_
    rintro e w1 ⟨rfl, hb⟩
    have B1 := Lib.hid (joins B0.out hb)
    clear hb
    go_wp2_with (first
      | ((with_reducible refine at_op (d := some 4) (Op.alloc 47) ?_); refine wpList_alloc_row rfl 47 rfl Z ZZ.out ?_; intro w2 hr hb hz; have R2_p := Lib.hid hr; have L2_p := Lib.hid (show w1.heap.size ≤ w1.heap.size from Nat.le_refl _); have D2 := Lib.hid (hb); clear hr hb hz)
      | ((with_reducible refine at_op (Op.store 47 (.tmp 4) (.tmp 9)) ?_); refine wpList_put_row rfl 47 (.tmp 4) (.tmp 9) rfl (w1.heap.size) C0 rfl rfl 47 Z R2_p.out 33 infoPh S_C0.out SZ.out O_C0.out w1.heap.size w1 D2.out L2_p.out ?_; intro w3 hr hs hb; have R3_p := Lib.hid hr; have B3 := Lib.hid (joins B1.out hb); have L3_p := Lib.hid (Nat.le_trans B1.out.size L2_p.out); clear hr hs hb))
    go_returns
    exact ⟨_, rfl, OwnR.nil _ _, B3.out⟩
  | true =>
    rw [hr] at HRK
    rw [if_pos rfl]
    have HC := Lib.hid (HCL.out hr)
    have HO := Lib.hid (HOR.out hr)
    have HL := Lib.hid (HLS.out hr)
    have hz := HZL.out hr
    rw [hz] at HC
    obtain ⟨R, hRd⟩ : ∃ R, R = orL l 64 := ⟨_, rfl⟩
    rw [← hRd] at HO HL ⊢
    clear hr h0 HORB HR HKS HCL HOR HLS HZL hv hl hz hRd
    have B0 := Lib.hid (Below.refl w.heap.size w)
    go_enter Try.func12, Try.ntmps12
    go_wp2_with fail
    refine (HRK.out _ B0.out).mono ?_
    rintro e w1 ⟨rfl, hb⟩
    have B1 := Lib.hid (joins B0.out hb)
    clear hb
    go_wp2_with (first
      | ((with_reducible refine at_op (d := some 4) (Op.alloc 47) ?_); refine wpList_alloc_row rfl 47 rfl Z ZZ.out ?_; intro w2 hr hb hz; have R2_p := Lib.hid hr; have L2_p := Lib.hid (show w1.heap.size ≤ w1.heap.size from Nat.le_refl _); have D2 := Lib.hid (hb); clear hr hb hz)
      | ((with_reducible refine at_op (Op.store 47 (.tmp 4) (.tmp 9)) ?_); refine wpList_put_row rfl 47 (.tmp 4) (.tmp 9) rfl (w1.heap.size) C0 rfl rfl 47 Z R2_p.out 33 infoPh S_C0.out SZ.out O_C0.out w1.heap.size w1 D2.out L2_p.out ?_; intro w3 hr hs hb; have R3_p := Lib.hid hr; have B3 := Lib.hid (joins B1.out hb); have L3_p := Lib.hid (Nat.le_trans B1.out.size L2_p.out); clear hr hs hb)
      | ((with_reducible refine at_op (d := some 13) (Op.load 47 (.tmp 4)) ?_); refine wpList_load_part rfl 47 (.tmp 4) rfl (w1.heap.size) 0 rfl C0 C0 47 (0, 0) _ R3_p.out (Part.self _) Try.underlying47 rfl I_C0.out ?_))
    refine (HC.out _).mono ?_
    rintro e w20 ⟨b, M, rfl, hbn, hmo, hmk, hb⟩
    have B20 := Lib.hid (joins B3.out hb)
    have MO := Lib.hid hmo
    have MK := Lib.hid hmk
    clear hbn hmo hmk hb
    go_wp2_with fail
    refine (HO.out b 64 M _ MO.out MK.out).mono ?_
    rintro e w21 ⟨g, cap, rfl, hg, hsq, hb⟩
    have B21 := Lib.hid (joins B20.out hb)
    have SQ21 := Lib.hid hsq
    clear hg hsq hb
    go_wp2_with fail
    refine (HL.out g cap _ SQ21.out).mono ?_
    rintro e w22 ⟨s, rfl, ho, hb⟩
    have B22 := Lib.hid (joins B21.out hb)
    have O22 := Lib.hid (ho.mono B21.out.size)
    clear ho hb
    go_wp2_with fail
    go_returns
    exact ⟨_, rfl, O22.out, B22.out⟩

set_option maxRecDepth 100000 in
set_option maxHeartbeats 4000000 in
theorem iLeastOf (v : Value) (l : List Int) (w : World) (hv : IS w v l) (hl : l.length ≤ 1048576) : Calls Try.prog 19 #[v] w (MakesB w (lsF9 l) (ranked l)) := by
  have HRK := Lib.hid (fun w' (h : Below w.heap.size w w') => rankedOf_any v l w' (hv.below h) hl)
  have ZZ := Lib.hid zeroPh
  have SZ := Lib.hid (phA_size z32 0 z32_length)
  obtain ⟨Z, hZ⟩ : ∃ Z, Z = phA z32 0 := ⟨_, rfl⟩
  rw [← hZ] at ZZ SZ
  clear hZ
  have S_C0 := Lib.hid (phC_size (rkz l))
  have O_C0 := Lib.hid (phC_one (rkz l))
  have I_C0 := Lib.hid (phC_info (rkz l))
  have HORB := fun (h : ranked l = true) => orL_all l (ranked_seq h).1 64
  have HR := fun (h : ranked l = true) (s : List Int) (hs : s ∈ orL l 64) => show isSeq s = true ∧ s.length = l.length from ⟨((HORB h).1 s hs).2, ((HORB h).1 s hs).1⟩
  have HKS := fun (h : ranked l = true) {M : DataW Unit} (hk : KeysAre M (fun s => ∃ i, i < 64 ∧ s = clX i l)) => show KeysAre M (· ∈ orL l 64) from hk.same (fun s => ((HORB h).2.1 s).symm)
  have HCL := Lib.hid (fun (h : ranked l = true) w => classOf_any (rkz l) (rkz_seq l) w)
  have HOR := Lib.hid (fun (h : ranked l = true) b nn M w hown hk => least_any l.length (ranked_seq h).2 (orL l 64) (HR h) (HORB h).2.2 (orL_pos l 63) (by have := orL_len l 64; omega) b nn M w hown (HKS h hk))
  have HLS := Lib.hid (fun (h : ranked l = true) w => show Calls Try.prog 41 #[.agg (phC ((orL l 64).getD 0 []))] w (Makes w ((orL l 64).getD 0 [])) from by
    have hs := (least_in l (ranked_seq h).1).1
    have := list_any (padL ((orL l 64).getD 0 [])) ((orL l 64).getD 0 []).length (padL_length (isSeq_len hs)) (isSeq_len hs) w
    rwa [← phC_seq hs, pad_take] at this)
  have HZL := Lib.hid (fun (h : ranked l = true) => rkz_yes h)
  unfold lsF9
  obtain ⟨C0, h0⟩ : ∃ C, C = phC (rkz l) := ⟨_, rfl⟩
  rw [← h0] at S_C0 O_C0 I_C0 HRK HCL
  cases hr : ranked l with
  | false =>
    rw [hr] at HRK
    rw [if_neg (by decide)]
    clear hr h0 HORB HR HKS HCL HOR HLS HZL hv hl
    have B0 := Lib.hid (Below.refl w.heap.size w)
    go_enter Try.func19, Try.ntmps19
    go_wp2_with fail
    refine (HRK.out _ B0.out).mono ?_
    rintro e w1 ⟨rfl, hb⟩
    have B1 := Lib.hid (joins B0.out hb)
    clear hb
    go_wp2_with (first
      | ((with_reducible refine at_op (d := some 4) (Op.alloc 47) ?_); refine wpList_alloc_row rfl 47 rfl Z ZZ.out ?_; intro w2 hr hb hz; have R2_p := Lib.hid hr; have L2_p := Lib.hid (show w1.heap.size ≤ w1.heap.size from Nat.le_refl _); have D2 := Lib.hid (hb); clear hr hb hz)
      | ((with_reducible refine at_op (Op.store 47 (.tmp 4) (.tmp 9)) ?_); refine wpList_put_row rfl 47 (.tmp 4) (.tmp 9) rfl (w1.heap.size) C0 rfl rfl 47 Z R2_p.out 33 infoPh S_C0.out SZ.out O_C0.out w1.heap.size w1 D2.out L2_p.out ?_; intro w3 hr hs hb; have R3_p := Lib.hid hr; have B3 := Lib.hid (joins B1.out hb); have L3_p := Lib.hid (Nat.le_trans B1.out.size L2_p.out); clear hr hs hb))
    go_returns
    exact ⟨_, rfl, World.ownsRow_nil _ _ _ _, B3.out⟩
  | true =>
    rw [hr] at HRK
    rw [if_pos rfl]
    have HC := Lib.hid (HCL.out hr)
    have HO := Lib.hid (HOR.out hr)
    have HL := Lib.hid (HLS.out hr)
    have hz := HZL.out hr
    rw [hz] at HC
    obtain ⟨R, hRd⟩ : ∃ R, R = (orL l 64).getD 0 [] := ⟨_, rfl⟩
    rw [← hRd] at HO HL ⊢
    clear hr h0 HORB HR HKS HCL HOR HLS HZL hv hl hz hRd
    have B0 := Lib.hid (Below.refl w.heap.size w)
    go_enter Try.func19, Try.ntmps19
    go_wp2_with fail
    refine (HRK.out _ B0.out).mono ?_
    rintro e w1 ⟨rfl, hb⟩
    have B1 := Lib.hid (joins B0.out hb)
    clear hb
    go_wp2_with (first
      | ((with_reducible refine at_op (d := some 4) (Op.alloc 47) ?_); refine wpList_alloc_row rfl 47 rfl Z ZZ.out ?_; intro w2 hr hb hz; have R2_p := Lib.hid hr; have L2_p := Lib.hid (show w1.heap.size ≤ w1.heap.size from Nat.le_refl _); have D2 := Lib.hid (hb); clear hr hb hz)
      | ((with_reducible refine at_op (Op.store 47 (.tmp 4) (.tmp 9)) ?_); refine wpList_put_row rfl 47 (.tmp 4) (.tmp 9) rfl (w1.heap.size) C0 rfl rfl 47 Z R2_p.out 33 infoPh S_C0.out SZ.out O_C0.out w1.heap.size w1 D2.out L2_p.out ?_; intro w3 hr hs hb; have R3_p := Lib.hid hr; have B3 := Lib.hid (joins B1.out hb); have L3_p := Lib.hid (Nat.le_trans B1.out.size L2_p.out); clear hr hs hb)
      | ((with_reducible refine at_op (d := some 13) (Op.load 47 (.tmp 4)) ?_); refine wpList_load_part rfl 47 (.tmp 4) rfl (w1.heap.size) 0 rfl C0 C0 47 (0, 0) _ R3_p.out (Part.self _) Try.underlying47 rfl I_C0.out ?_))
    refine (HC.out _).mono ?_
    rintro e w20 ⟨b, M, rfl, hbn, hmo, hmk, hb⟩
    have B20 := Lib.hid (joins B3.out hb)
    have MO := Lib.hid hmo
    have MK := Lib.hid hmk
    clear hbn hmo hmk hb
    go_wp2_with fail
    refine (HO.out b 64 M _ MO.out MK.out).mono ?_
    rintro e w21 ⟨rfl, hb⟩
    have B21 := Lib.hid (joins B20.out hb)
    clear hb
    go_wp2_with fail
    refine (HL.out _).mono ?_
    rintro e w22 ⟨s, rfl, ho, hb⟩
    have B22 := Lib.hid (joins B21.out hb)
    have O22 := Lib.hid (ho.mono B21.out.size)
    clear ho hb
    go_wp2_with fail
    go_returns
    exact ⟨_, rfl, O22.out, B22.out⟩
end Go.Proofs.Ytcagiecgbjnefab
