/- The program's DelayedOf. -/
import Derived.Test.YtapmehgdnofgnabSSpY
import Derived.Test.YtapmehgdnofgnabISpS
import Derived.Test.YtapmehgdnofgnabIPl
namespace Go.Proofs.Ytapmehgdnofgnab
set_option maxRecDepth 100000
open Go.RowKit

theorem cx_splice (n d m : Nat) (C TT : Nat → Nat × Nat) (hd : d ≤ n) : (cxL n C).take d ++ cxL (min m (n - d)) TT ++ (cxL n C).drop (d + min m (n - d)) = cxL n (fun i => if d ≤ i ∧ i < d + m then TT (i - d) else C i) := by
  apply List.ext_getElem?
  intro i
  have hl : ((cxL n C).take d).length = d := by rw [List.length_take, cxL_length]; omega
  by_cases hi : i < n
  · rw [cxL_get _ _ _ hi]
    by_cases h1 : i < d
    · rw [List.append_assoc, List.getElem?_append_left (by omega), List.getElem?_take_of_lt h1, cxL_get _ _ _ hi, if_neg (by omega)]
    · by_cases h2 : i < d + m
      · rw [List.append_assoc, List.getElem?_append_right (by omega), hl, List.getElem?_append_left (by rw [cxL_length]; omega), cxL_get _ _ _ (by omega), if_pos ⟨by omega, h2⟩]
      · rw [List.getElem?_append_right (by rw [List.length_append, hl, cxL_length]; omega), List.length_append, hl, cxL_length, List.getElem?_drop, show d + min m (n - d) + (i - (d + min m (n - d))) = i by omega, cxL_get _ _ _ hi, if_neg (by omega)]
  · rw [List.getElem?_eq_none (by simp only [List.length_append, List.length_drop, hl, cxL_length]; omega), List.getElem?_eq_none (by rw [cxL_length]; omega)]
theorem cx_one (n : Nat) (C : Nat → Nat × Nat) : ∀ v ∈ cxL n C, v.oneCell' = true := by
  intro v hv
  unfold cxL at hv
  obtain ⟨i, _, rfl⟩ := List.mem_map.1 hv
  rfl
/-- A signal copied into another one behind an index, in a region that draws its order. -/
theorem step_copySig {ops : Array Oper} {o : Oper} {a : Act} {w : World} {K : Act → World → Prop} {Q : Exit → Act → World → Prop} {E : Prop} (hgd : o.guard = none) (x s : Operand)
    (ho : o.op = .call { callee := .builtin .copy, args := #[x, s], argTypes := #[60, 60] }) (g n d B : Nat) (C : Nat → Nat × Nat) (hr : RowC w B g n C) (hdn : d < n) (gs m : Nat) (TT : Nat → Nat × Nat) (B2 : Nat) (hs : RowC w B2 gs m TT)
    (hx : a.eval x = .slice (some ⟨g, d, none⟩) (n - d) (n - d)) (hv : a.eval s = .slice (some ⟨gs, 0, none⟩) m m)
    (h : ∀ w', RowC w' B g n (fun i => if d ≤ i ∧ i < d + m then TT (i - d) else C i) → w.grownBy w' (some g) → K (a.put o.dst (goInt ((min m (n - d) : Nat) : Int))) w') :
    if Region.wanted o (yielded ops a.tmps) = true then Oper.wp Try.prog o a w K Q else E := by
  have hw : Region.wanted o (yielded ops a.tmps) = true := by simp [Region.wanted, hgd]
  rw [if_pos hw]
  obtain ⟨i0, hi, hz0, hz1, hz2⟩ := info_parts infoC8
  rcases hr.2 with ⟨_, hn0⟩ | ⟨g', cap, cur, hv1, hg, hh, hcap, hmax, hsz, htake⟩
  · omega
  simp only [Value.slice.injEq, Option.some.injEq, Addr.mk.injEq, and_true, true_and] at hv1
  obtain ⟨rfl, rfl⟩ := hv1
  rw [Nat.mul_one] at hsz htake
  have hcur : cur.toList = cxL n C := by rw [← htake, List.take_of_length_le (by simp; omega)]
  have hlen : (cxL (min m (n - d)) TT).length = Nat.min m (n - d) := cxL_length _ _
  have hrun := run_copy_row (P := Try.prog) w 60 60 o.type 85 g d (n - d) (n - d) ⟨gs, 0, none⟩ m m cur 85 (cxL (min m (n - d)) TT) Try.underlying60 (by rw [hi]; simp [hz1]) hh hlen (fun j u hj => by
    have hjl : j < min m (n - d) := by
      rcases Nat.lt_or_ge j (min m (n - d)) with h1 | h1
      · exact h1
      · rw [List.getElem?_eq_none (by rw [cxL_length]; exact h1)] at hj; cases hj
    rw [cxL_get _ _ _ hjl] at hj
    have hc := hs.cell j (by omega)
    rw [Addr.add_lit, Nat.zero_add, hc]
    exact hj) (by rw [cxL_length, hsz]; omega) (cx_one _ _)
  rw [hcur, cxL_length, cx_splice n d m C TT (by omega)] at hrun
  unfold Oper.wp
  simp [execOp, ho, resolve, invoke, builtin, hx, hv, hrun, Result.andThen]
  refine h _ ⟨by rw [cxL_length, Nat.mul_one], Or.inr ⟨g, n, (cxL n (fun i => if d ≤ i ∧ i < d + m then TT (i - d) else C i)).toArray, rfl, hg, setRow_heap w g _ _ _ _ hh, Nat.le_refl _, hmax, by simp [cxL_length], ?_⟩⟩ ⟨rfl, rfl, rfl, by simp [World.setRow], fun k hk hne => setRow_other w g k _ (fun e => hne (by rw [e]))⟩
  simp [List.take_of_length_le, cxL_length]
theorem fb_ok8 (x : Int) (h : -1000000 ≤ x ∧ x ≤ 1000000) : FK .f32 (fb x) x := by
  have ht : topF .f32 = 16777216 := by decide
  exact FN_ofInt .f32 x (by rw [ht]; omega)
theorem slice_sig (g n d : Nat) (hd : d < n) (w : World) : (Instr.sliceAt 60 (.slice (some ⟨g, 0, none⟩) n n) (some (.int .i64 (d : Int))) none none).run Try.prog w = .ok (.slice (some ⟨g, d, none⟩) (n - d) (n - d)) w := by
  have hu : Try.prog.underlying 60 = some (.slice (Try.prog.elem 60)) := by rw [show Try.prog.elem 60 = 85 by kernel_rfl]; exact Try.underlying60
  have hsz : (sizeOf (Try.prog.elem 60)).run Try.prog w = .ok 1 w := by rw [show Try.prog.elem 60 = 85 by kernel_rfl]; simp [go_sem]
  rw [run_sliceAt_slice w _ _ _ _ _ hu, run_slice_l w _ _ _ _ hu _ _ (by omega) (by omega), hsz, Result.andThen_ok]
  unfold sliced
  rw [Int.toNat_natCast, if_neg (by omega), Option.map_some, Nat.mul_one, Addr.add_lit, Nat.zero_add]
set_option maxHeartbeats 1000000 in
theorem igood8 (a b : Int) (w : World) : Calls Try.prog 60 #[.agg #[.int .i64 a, .int .i64 b]] w (Ret w (.bool (good a b))) := by
  go_enter Try.func60, Try.ntmps60
  go_wp2
  all_goals
    go_ret
    exact ⟨ret_bool (by simp only [good]; simp; first | omega | simp_all), by go_grown⟩
set_option maxRecDepth 100000 in
set_option maxHeartbeats 8000000 in
theorem delayedOf1_any (vs : Value) (s : List Int) (a b d0 n0 : Int) (p : Addr) (gq : Nat) (r u : Addr) (w : World) (hp : w.cell? p = some vs) (hqa : w.cell? ⟨gq, 0, none⟩ = some (.int .i64 a)) (hqb : w.cell? ⟨gq, 1, none⟩ = some (.int .i64 b)) (hr : w.cell? r = some (.int .i64 d0)) (hu : w.cell? u = some (.int .i64 n0)) (hvs : IS w vs s) (hls : s.length ≤ 1048576) :
    Calls Try.prog 59 #[.pointer (some p), .pointer (some ⟨gq, 0, none⟩), .pointer (some u), .pointer (some r)] w (Tries w (kOf (dyB s a b d0 n0)) (fun B v w' => OwnG w' B v (dlL a b s d0.toNat n0.toNat s.length))) := by
  obtain ⟨i0, hi, hz0, hz1, hz2⟩ := info_parts infoC8
  have hdef : dyB s a b d0 n0 = (cdOk s && good a b && inB n0 1 64 && inB d0 0 (n0 - 1)) := rfl
  have HCO := Lib.hid (codeFrom_any vs s w hvs hls)
  have HR1 := Lib.hid (fun (h : kOf (cdOk s) ≠ 0) => show kOf (dyB s a b d0 n0) ≠ 0 ∧ Ending.panicked [rfs (kOf (cdOk s))] = .panicked [rfs (kOf (dyB s a b d0 n0))] by
    rw [hdef, kOf_ne h, Bool.false_and, Bool.false_and, Bool.false_and]; exact ⟨by decide, rfl⟩)
  have HKN := Lib.hid (fun (h : dyB s a b d0 n0 = false) => show kOf (dyB s a b d0 n0) = 1 by rw [h]; rfl)
  have HIG := Lib.hid (igood8 a b)
  have HIP := Lib.hid (isPlace_any d0 n0)
  have SC := Lib.hid (phC_size s)
  have OC := Lib.hid (phC_one s)
  have IC := Lib.hid (infoPhC8 s)
  have SZ := Lib.hid (phA_size z32 0 z32_length)
  have ZZ := Lib.hid zeroPh
  have HDF := Lib.hid hdef
  have HTV := Lib.hid (fun (hc : cdOk s = true) (hg : good a b = true) => timesValues_any (fb_ok8 a (good_in hg).1) (fb_ok8 b (good_in hg).2) (good_in hg).1 (good_in hg).2 s (cdOk_seq hc).1)
  have HTC := Lib.hid (fun (hc : cdOk s = true) (hg : good a b = true) => tvC_ok (fb_ok8 a (good_in hg).1) (fb_ok8 b (good_in hg).2) (good_in hg).1 (good_in hg).2 (cdOk_seq hc).1)
  have HTL := Lib.hid (fun (hc : cdOk s = true) (hg : good a b = true) (i : Nat) (hi : i < s.length) => tv_le (good_in hg).1 (good_in hg).2 (isSeq_all (cdOk_seq hc).1) i hi)
  have HGV := Lib.hid (gaussValue_any a b)
  obtain ⟨ZR, hZ⟩ : ∃ Z, Z = phA z32 0 := ⟨_, rfl⟩
  rw [← hZ] at SZ ZZ
  obtain ⟨CC, hCC⟩ : ∃ C, C = phC s := ⟨_, rfl⟩
  rw [← hCC] at HCO SC OC IC HTV
  obtain ⟨TT, hTT⟩ : ∃ C, C = tvC (fb a) (fb b) s := ⟨_, rfl⟩
  rw [← hTT] at HTV HTC
  obtain ⟨b1, hb1⟩ : ∃ b1, b1 = fb a := ⟨_, rfl⟩
  obtain ⟨b2, hb2⟩ : ∃ b1, b1 = fb b := ⟨_, rfl⟩
  rw [← hb1, ← hb2] at HGV HTV
  have HP := Lib.hid hp
  have HQA := Lib.hid hqa
  have HQB := Lib.hid hqb
  have HRC := Lib.hid hr
  have HUC := Lib.hid hu
  have hblk := fun {p : Addr} {v : Value} (h : w.cell? p = some v) => World.block_lt_of_cell? w p h
  have LQ := Lib.hid (show gq < w.heap.size from hblk hqa)
  have LR := Lib.hid (show r.block < w.heap.size from hblk hr)
  clear hdef hZ hCC hTT hb1 hb2 hvs hqa hqb hr hu hblk
  go_enter Try.func59, Try.ntmps59
  go_wp2_with fail
  refine (HCO.out).mono ?_
  rintro e w1 ⟨hb, hx⟩
  rcases hx.symm with ⟨hk, rfl⟩ | ⟨hk, v1, rfl, rfl⟩
  · exact ⟨rfl, hb, Or.inr (HR1.out hk)⟩
  have HC := Lib.hid (kOf_eq hk)
  have HB1 := Lib.hid hb
  clear hb hx hk hp
  go_wp2_with (first
    | ((with_reducible refine at_op (d := some 5) (Op.alloc 64) ?_); refine wpList_alloc_row rfl 64 rfl ZR ZZ.out ?_; intro w2 hr hb hz; have R2 := Lib.hid hr; have L2 := Lib.hid HB1.out.size; have B2 := Lib.hid (joins HB1.out hb); have S2 := Lib.hid hz; clear hr hb hz)
    | ((with_reducible refine at_op (Op.store 64 (.tmp 5) (.tmp 8)) ?_); refine wpList_put_row rfl 64 (.tmp 5) (.tmp 8) rfl (w1.heap.size) CC rfl rfl 64 ZR R2.out 33 infoPh SC.out SZ.out OC.out w.heap.size w B2.out L2.out ?_; intro w3 hr hs hb; have RP := Lib.hid hr; have BT := Lib.hid hb; have c1 := keepc hb HQA.out; have c2 := keepc hb HQB.out; have c3 := keepc hb HRC.out; have c4 := keepc hb HUC.out; have HCS := Lib.hid (And.intro c1 (And.intro c2 (And.intro c3 c4))); clear hr hs hb))
  refine (HIG.out _).mono ?_
  rintro e w4 ⟨rfl, hb⟩
  have BT4 := Lib.hid (joins BT.out hb)
  have RP4 := Lib.hid (rowB RP.out hb)
  obtain ⟨k1, k2, k3, k4⟩ := HCS.out
  have c1 := keepc hb k1
  have c2 := keepc hb k2
  have c3 := keepc hb k3
  have c4 := keepc hb k4
  have HCT := Lib.hid (And.intro c1 (And.intro c2 (And.intro c3 c4)))
  have HL4 := Lib.hid (show w1.heap.size < w4.heap.size from row_lt RP4.out)
  clear hb k1 k2 k3 k4
  cases hgg : good a b with
  | false =>
    have hK := HKN.out (by rw [HDF.out, hgg, Bool.and_false]; rfl)
    go_wp2_with fail
    refine (require_no _).mono ?_
    rintro e w' ⟨rfl, rfl⟩
    exact ⟨rfl, BT4.out, Or.inr ⟨by rw [hK]; decide, by rw [hK]⟩⟩
  | true =>
  by_cases hn1 : 1 ≤ n0
  case neg =>
    have hK := HKN.out (by rw [HDF.out]; unfold inB; rw [decide_eq_false hn1]; simp)
    go_wp2_with fail
    refine (require_no _).mono ?_
    rintro e w' ⟨rfl, rfl⟩
    exact ⟨rfl, BT4.out, Or.inr ⟨by rw [hK]; decide, by rw [hK]⟩⟩
  by_cases hn2 : n0 ≤ 64
  case neg =>
    have hK := HKN.out (by rw [HDF.out]; unfold inB; rw [decide_eq_false hn2]; simp)
    go_wp2_with fail
    refine (require_no _).mono ?_
    rintro e w' ⟨rfl, rfl⟩
    exact ⟨rfl, BT4.out, Or.inr ⟨by rw [hK]; decide, by rw [hK]⟩⟩
  go_wp2_with fail
  refine (HIP.out _).mono ?_
  rintro e w' ⟨rfl, rfl⟩
  by_cases hd1 : 0 ≤ d0 ∧ d0 < n0
  case neg =>
    have hin : inB d0 0 (n0 - 1) = false := by
      unfold inB
      by_cases h : 0 ≤ d0
      · rw [decide_eq_false (show ¬ d0 ≤ n0 - 1 by omega), Bool.and_false]
      · rw [decide_eq_false h, Bool.false_and]
    have hK := HKN.out (by rw [HDF.out, hin, Bool.and_false])
    rw [decide_eq_false hd1]
    go_wp2_with fail
    refine (require_no _).mono ?_
    rintro e w' ⟨rfl, rfl⟩
    exact ⟨rfl, BT4.out, Or.inr ⟨by rw [hK]; decide, by rw [hK]⟩⟩
  rw [decide_eq_true hd1]
  have hK : dyB s a b d0 n0 = true := by
    rw [HDF.out, HC.out, hgg]
    unfold inB
    rw [decide_eq_true hn1, decide_eq_true hn2, decide_eq_true hd1.1, decide_eq_true (show d0 ≤ n0 - 1 by omega)]
    rfl
  have HKK := Lib.hid (show kOf (dyB s a b d0 n0) = 0 by rw [hK]; rfl)
  obtain ⟨n, rfl⟩ : ∃ n : Nat, n0 = (n : Int) := ⟨n0.toNat, by omega⟩
  obtain ⟨d, rfl⟩ : ∃ d : Nat, d0 = (d : Int) := ⟨d0.toNat, by omega⟩
  have h64 : n ≤ 64 := by omega
  have hdn : d < n := by omega
  have HTW := Lib.hid (HTV.out HC.out hgg)
  have HFK := Lib.hid (show ∀ i, i < n → FK .f32 ((fun i => if d ≤ i ∧ i < d + s.length then TT (i - d) else (0, 0)) i).1 (dlX a b s d s.length i) ∧ FK .f32 ((fun i => if d ≤ i ∧ i < d + s.length then TT (i - d) else (0, 0)) i).2 (dlY a b s d s.length i) from fun i _ => by
    unfold dlX dlY
    dsimp only
    by_cases h : d ≤ i ∧ i < d + s.length
    · rw [if_pos h, if_pos h, if_pos h]; exact HTC.out HC.out hgg (i - d) (by omega)
    · rw [if_neg h, if_neg h, if_neg h]; exact ⟨FK_zero .f32, FK_zero .f32⟩)
  have hbd : ∀ i, (-1000000 ≤ dlX a b s d s.length i ∧ dlX a b s d s.length i ≤ 1000000) ∧ (-1000000 ≤ dlY a b s d s.length i ∧ dlY a b s d s.length i ≤ 1000000) := fun i => by
    unfold dlX dlY
    by_cases h : d ≤ i ∧ i < d + s.length
    · rw [if_pos h, if_pos h]; exact HTL.out HC.out hgg (i - d) (by omega)
    · rw [if_neg h, if_neg h]; omega
  have HBD := Lib.hid (show ∀ i, i < n → (-16000000 ≤ dlX a b s d s.length i ∧ dlX a b s d s.length i ≤ 16000000) ∧ (-16000000 ≤ dlY a b s d s.length i ∧ dlY a b s d s.length i ≤ 16000000) from fun i _ => by have := hbd i; omega)
  have HKG := Lib.hid (show kOf (goodL (genG n (dlX a b s d s.length) (dlY a b s d s.length))) = 0 by
    rw [goodL_gen (fun i _ => by unfold good; exact decide_eq_true (hbd i))]; rfl)
  have HLL := Lib.hid (show dlL a b s (d : Int).toNat (n : Int).toNat s.length = genG n (dlX a b s d s.length) (dlY a b s d s.length) from by rw [Int.toNat_natCast, Int.toNat_natCast]; rfl)
  obtain ⟨X, hX⟩ : ∃ X, X = dlX a b s d s.length := ⟨_, rfl⟩
  obtain ⟨Y, hY⟩ : ∃ X, X = dlY a b s d s.length := ⟨_, rfl⟩
  rw [← hX, ← hY] at HFK HBD HKG HLL
  obtain ⟨m, hm⟩ : ∃ m, m = s.length := ⟨_, rfl⟩
  rw [← hm] at HTW HFK
  have HTV := HTW
  clear hbd hX hY hm hd1 hn1 hn2 hgg hK
  go_wp2_with fail
  refine (require_yes _).mono ?_
  rintro e w' ⟨rfl, rfl⟩
  obtain ⟨wx, hwx⟩ : ∃ wx, wx = w4 := ⟨_, rfl⟩
  go_wp2_with (at_make; refine wpList_make_full _ rfl _ _ 60 rfl w4.heap.size 85 i0 (.complex .f32 0 0) 1 Try.underlying60 hi hz0 hz1 _ _ _ _ n rfl rfl rfl rfl ?b2 ?b3 (Nat.le_refl _) ?_)
  case b2 => rw [hz2]; omega
  case b3 => unfold maxLen; omega
  intro w5 hown0 hgrow0
  have hb5 : Below w4.heap.size w4 w5 := (Below.refl _ _).grown hgrow0 (Nat.le_refl _) (fun k h => by cases h)
  have hrow0 : RowC w5 w.heap.size w4.heap.size n (fun _ => (0, 0)) := by
    unfold RowC
    rw [← cx_zeros]
    exact rowMono (by simpa using hown0) BT4.out.size
  have HV0 := Lib.hid hrow0
  have HB0 := Lib.hid (joins BT4.out hb5)
  have RP := Lib.hid (rowB RP4.out hb5)
  have CX := Lib.hid (keepc hb5 HCT.out.1)
  have CY := Lib.hid (keepc hb5 HCT.out.2.1)
  have CR := Lib.hid (keepc hb5 HCT.out.2.2.1)
  have hw4 := BT4.out.size
  have NEX := Lib.hid (show w4.heap.size ≠ gq from by have := LQ.out; omega)
  have NER := Lib.hid (show w4.heap.size ≠ r.block from by have := LR.out; omega)
  have NEP := Lib.hid (show w4.heap.size ≠ w1.heap.size from by have := HL4.out; omega)
  have LG := Lib.hid (show w.heap.size ≤ w4.heap.size from hw4)
  obtain ⟨gp, hgp⟩ : ∃ g, g = w1.heap.size := ⟨_, rfl⟩
  rw [← hgp] at RP NEP ⊢
  obtain ⟨g, hg⟩ : ∃ g, g = w4.heap.size := ⟨_, rfl⟩
  rw [← hg] at HV0 NEX NER NEP LG ⊢
  have HSL := Lib.hid (slice_sig g n d hdn)
  clear hown0 hgrow0 hb5 hrow0 hw4 hg hgp c1 c2 c3 c4 hwx
  go_wp2_with fail
  refine wp_region_held_drew (S := (fun w' => World.grownBy w5 w' (some (g)))) (by kernel_rfl) (grownDrew (World.grownBy.refl _ _)) ?_
  obtain ⟨d1, hdw⟩ : ∃ w', w' = w5.drew := ⟨_, rfl⟩
  rw [← hdw]
  have hb : Below w5.heap.size w5 d1 := by rw [hdw]; exact belowN (Below.refl _ _) 1
  have F1_V := Lib.hid (HV0.out.below hb)
  have F1_B := Lib.hid (joins HB0.out hb)
  clear hdw hb
  intro hHeld
  refine' wpAnyH_take (i := 0) (v := _) rfl (by kernel_rfl) (by kernel_rfl) (by kernel_rfl) (fun _ _ _ h => h) (Or.inl ⟨by rfl, ?hy1⟩) (by assumption) ?rest1
  case hy1 =>
    intro w h
    (try clear h)
    go_simp
    (try with_reducible rfl)
  (try simp only [Act.put, List.getElem_toArray, List.getElem_cons_zero, List.setIfInBounds_toArray, List.set_cons_zero, List.set_cons_succ])
  refine' wpAnyH_take (i := 1) (v := _) rfl (by kernel_rfl) (by kernel_rfl) (by kernel_rfl) (fun _ _ _ h => h) (Or.inl ⟨by rfl, ?hy2⟩) (by assumption) ?rest2
  case hy2 =>
    intro w h
    have c1 := cellR h CR.out (fun e => NER.out (Option.some.inj e))
    (try clear h)
    go_simp
    (try with_reducible rfl)
  (try simp only [Act.put, List.getElem_toArray, List.getElem_cons_zero, List.getElem_cons_succ, List.setIfInBounds_toArray, List.set_cons_zero, List.set_cons_succ])
  refine' wpAnyH_take (i := 2) (v := _) rfl (by kernel_rfl) (by kernel_rfl) (by kernel_rfl) (fun _ _ _ h => h) (Or.inl ⟨by rfl, ?hy3⟩) (by assumption) ?rest3
  case hy3 =>
    intro w h
    have es := HSL.out
    (try clear h)
    go_simp
    (try with_reducible rfl)
  (try simp only [Act.put, List.getElem_toArray, List.getElem_cons_zero, List.getElem_cons_succ, List.setIfInBounds_toArray, List.set_cons_zero, List.set_cons_succ])
  refine' wpAnyH_take (i := 3) (v := _) rfl (by kernel_rfl) (by kernel_rfl) (by kernel_rfl) (fun _ _ _ h => h) (Or.inl ⟨by rfl, ?hy4⟩) (by assumption) ?rest4
  case hy4 =>
    intro w h
    have c1 := cellR h CX.out (fun e => NEX.out (Option.some.inj e))
    have c2 := cellR h CY.out (fun e => NEX.out (Option.some.inj e))
    (try clear h)
    go_simp
    (try with_reducible rfl)
  (try simp only [Act.put, List.getElem_toArray, List.getElem_cons_zero, List.getElem_cons_succ, List.setIfInBounds_toArray, List.set_cons_zero, List.set_cons_succ])
  refine' wpAnyH_take (i := 5) (v := _) rfl (by kernel_rfl) (by kernel_rfl) (by kernel_rfl) (fun _ _ _ h => h) (yieldsPart (by rfl) 64 (.tmp 5) rfl (gp) 0 rfl CC CC 64 (0, 0) _ (fun w h => rowG8 RP.out h (fun e => NEP.out (Option.some.inj e))) (Part.self _) Try.underlying64 rfl IC.out) (by assumption) ?rest5
  (try simp only [Act.put, List.getElem_toArray, List.getElem_cons_zero, List.getElem_cons_succ, List.setIfInBounds_toArray, List.set_cons_zero, List.set_cons_succ])
  refine wpAnyH_ready (rs := [4]) (by kernel_rfl) (by simp) ?_
  refine AllReadyH.cons rfl (fun K hK => ?_) AllReadyH.nil
  go_simp
  refine (HGV.out _).mono ?_
  rintro e d2 ⟨rfl, hb⟩
  have F2_V := Lib.hid (F1_V.out.below hb)
  have F2_B := Lib.hid (joins F1_B.out hb)
  have hHeld := grownB hHeld hb
  clear hb
  refine hK.out _ _ hHeld (fun hHeld => ?_)
  clear hK K
  (try simp only [Act.put, List.getElem_toArray, List.getElem_cons_zero, List.getElem_cons_succ, List.setIfInBounds_toArray, List.set_cons_zero, List.set_cons_succ])
  refine wpAnyH_ready (rs := [6]) (by kernel_rfl) (by simp) ?_
  refine AllReadyH.cons rfl (fun K hK => ?_) AllReadyH.nil
  go_simp
  refine (HTV.out _).mono ?_
  rintro e d3 ⟨gt, rfl, hrow, hb⟩
  have F3_V := Lib.hid (F2_V.out.below hb)
  have F3_B := Lib.hid (joins F2_B.out hb)
  have F3_T := Lib.hid (hrow)
  have hHeld := grownB hHeld hb
  clear hb
  refine hK.out _ _ hHeld (fun hHeld => ?_)
  clear hK K
  (try simp only [Act.put, List.getElem_toArray, List.getElem_cons_zero, List.getElem_cons_succ, List.setIfInBounds_toArray, List.set_cons_zero, List.set_cons_succ])
  refine wpAnyH_ready (rs := [7]) (by kernel_rfl) (by simp) ?_
  refine AllReadyH.cons rfl (fun K hK => ?_) AllReadyH.nil
  refine step_copySig rfl (.tmp 29) (.tmp 33) rfl g n d _ _ F3_V.out hdn gt m TT _ F3_T.out rfl rfl ?_
  intro w8 hr8 hg8
  have HV8 := Lib.hid hr8
  have HB8 := Lib.hid (F3_B.out.grown hg8 F3_B.out.size (fun k h => by cases h; exact LG.out))
  refine hK.out _ _ (grown_trans hHeld hg8) (fun hHeld => ?_)
  clear hK K
  (try simp only [Act.put, List.getElem_toArray, List.getElem_cons_zero, List.getElem_cons_succ, List.setIfInBounds_toArray, List.set_cons_zero, List.set_cons_succ])
  refine wpAnyH_done (by kernel_rfl) ?_ _
  have HRT := Lib.hid HV8.out
  have HBT := Lib.hid HB8.out
  obtain ⟨wt, hwt⟩ : ∃ w', w' = w8 := ⟨_, rfl⟩
  rw [← hwt] at HRT HBT ⊢
  clear hwt hHeld
  have HNB := Lib.hid (numbersOf_any g n w.heap.size _ X Y HFK.out h64 wt HRT.out HBD.out)
  rw [HKG.out] at HNB
  go_wp2_with fail
  refine (HNB.out).mono ?_
  rintro e w9 ⟨hb, ⟨hk, v, rfl, hv⟩ | ⟨hk, rfl⟩⟩
  · have HB9 := Lib.hid (joins HBT.out hb)
    have HV9 := Lib.hid (OwnG.mono hv HBT.out.size)
    clear hb hv
    go_wp2_with fail
    go_returns
    exact ⟨HB9.out, Or.inl ⟨HKK.out, _, rfl, by rw [HLL.out]; exact HV9.out⟩⟩
  · exact absurd rfl hk
set_option maxRecDepth 100000 in
set_option maxHeartbeats 2000000 in
theorem iDelayedOf (va : Value) (s : List Int) (a b : Int) (d0 : Int) (n0 : Int) (w : World) (h_va : IS w va s) (b_va : s.length ≤ 1048576) :
    Calls Try.prog 27 #[va, .agg #[.int .i64 a, .int .i64 b], .int .i64 d0, .int .i64 n0] w (MakesGB w (dyF s a b d0 n0) (dyB s a b d0 n0)) := by
  have hmf : ∀ (fn : Fn) (first cap : Array Value) (w : World), (Instr.makeFunc fn first cap).run Try.prog w = .ok (.func fn first cap) w := fun _ _ _ _ => rfl
  have hk0 : kOf (dyB s a b d0 n0) = 0 → dyF s a b d0 n0 = dlL a b s d0.toNat n0.toNat s.length := fun h => by unfold dyF; rw [kOf_eq h]; rfl
  have hk1 : kOf (dyB s a b d0 n0) ≠ 0 → dyF s a b d0 n0 = [] := fun h => by unfold dyF; rw [kOf_ne h]; rfl
  have hkz : (kOf (dyB s a b d0 n0) == 0) = dyB s a b d0 n0 := kOf_zero
  obtain ⟨wb0, hwb0⟩ : ∃ w', w' = w.alloc (.cells #[va] 23) := ⟨_, rfl⟩
  obtain ⟨wb1, hwb1⟩ : ∃ w', w' = wb0.alloc (.cells #[.int .i64 a, .int .i64 b] 26) := ⟨_, rfl⟩
  obtain ⟨wb2, hwb2⟩ : ∃ w', w' = wb1.alloc (.cells #[.int .i64 d0] 3) := ⟨_, rfl⟩
  obtain ⟨wb3, hwb3⟩ : ∃ w', w' = wb2.alloc (.cells #[.int .i64 n0] 3) := ⟨_, rfl⟩
  have HB0 := Lib.hid (show Below w.heap.size w wb0 by rw [hwb0]; exact belowa (Below.refl _ _) _)
  have HS0 := Lib.hid (show wb0.heap.size = w.heap.size + 1 by rw [hwb0]; simp)
  have hc0_0 : wb0.cell? ⟨w.heap.size, 0, none⟩ = some (va) := by rw [hwb0]; simp [go_sem]
  have hc0_0_1 : wb1.cell? ⟨w.heap.size, 0, none⟩ = some (va) := by rw [hwb1]; exact keepa _ hc0_0
  have hc0_0_2 : wb2.cell? ⟨w.heap.size, 0, none⟩ = some (va) := by rw [hwb2]; exact keepa _ hc0_0_1
  have hc0_0_3 : wb3.cell? ⟨w.heap.size, 0, none⟩ = some (va) := by rw [hwb3]; exact keepa _ hc0_0_2
  have HC0_0 := Lib.hid hc0_0_3
  have HB1 := Lib.hid (show Below w.heap.size w wb1 by rw [hwb1]; exact belowa HB0.out _)
  have HS1 := Lib.hid (show wb1.heap.size = w.heap.size + 2 by rw [hwb1]; simp [HS0.out])
  have hc1_0 : wb1.cell? ⟨w.heap.size + 1, 0, none⟩ = some (.int .i64 a) := by rw [hwb1, ← HS0.out]; exact cell_new0 _ _ _ _
  have hc1_0_2 : wb2.cell? ⟨w.heap.size + 1, 0, none⟩ = some (.int .i64 a) := by rw [hwb2]; exact keepa _ hc1_0
  have hc1_0_3 : wb3.cell? ⟨w.heap.size + 1, 0, none⟩ = some (.int .i64 a) := by rw [hwb3]; exact keepa _ hc1_0_2
  have HC1_0 := Lib.hid hc1_0_3
  have hc1_1 : wb1.cell? ⟨w.heap.size + 1, 1, none⟩ = some (.int .i64 b) := by rw [hwb1, ← HS0.out]; exact cell_new1 _ _ _ _
  have hc1_1_2 : wb2.cell? ⟨w.heap.size + 1, 1, none⟩ = some (.int .i64 b) := by rw [hwb2]; exact keepa _ hc1_1
  have hc1_1_3 : wb3.cell? ⟨w.heap.size + 1, 1, none⟩ = some (.int .i64 b) := by rw [hwb3]; exact keepa _ hc1_1_2
  have HC1_1 := Lib.hid hc1_1_3
  have HB2 := Lib.hid (show Below w.heap.size w wb2 by rw [hwb2]; exact belowa HB1.out _)
  have HS2 := Lib.hid (show wb2.heap.size = w.heap.size + 3 by rw [hwb2]; simp [HS1.out])
  have hc2_0 : wb2.cell? ⟨w.heap.size + 2, 0, none⟩ = some (.int .i64 d0) := by rw [hwb2, ← HS1.out]; simp [go_sem]
  have hc2_0_3 : wb3.cell? ⟨w.heap.size + 2, 0, none⟩ = some (.int .i64 d0) := by rw [hwb3]; exact keepa _ hc2_0
  have HC2_0 := Lib.hid hc2_0_3
  have HB3 := Lib.hid (show Below w.heap.size w wb3 by rw [hwb3]; exact belowa HB2.out _)
  have HS3 := Lib.hid (show wb3.heap.size = w.heap.size + 4 by rw [hwb3]; simp [HS2.out])
  have hc3_0 : wb3.cell? ⟨w.heap.size + 3, 0, none⟩ = some (.int .i64 n0) := by rw [hwb3, ← HS2.out]; simp [go_sem]
  have HC3_0 := Lib.hid hc3_0
  have HSH := Lib.hid (sharedQ 59 #[.pointer (some ⟨w.heap.size, 0, none⟩), .pointer (some ⟨w.heap.size + 1, 0, none⟩), .pointer (some ⟨w.heap.size + 3, 0, none⟩), .pointer (some ⟨w.heap.size + 2, 0, none⟩)] (fun w => by simp [go_sem]) (kOf (dyB s a b d0 n0)) _ (lasts_gauss (dlL a b s d0.toNat n0.toNat s.length)) wb3 (fun w2 hb2 => delayedOf1_any va s a b d0 n0 _ _ _ _ w2 (keepc hb2 HC0_0.out) (keepc hb2 HC1_0.out) (keepc hb2 HC1_1.out) (keepc hb2 HC2_0.out) (keepc hb2 HC3_0.out) (h_va.below (joins HB3.out hb2)) b_va))
  have HK0 := Lib.hid hk0
  have HK1 := Lib.hid hk1
  have HKZ := Lib.hid hkz
  obtain ⟨pa0, ca0, rfl⟩ := h_va.slice
  obtain ⟨LL, hLL⟩ : ∃ L, L = dlL a b s d0.toNat n0.toNat s.length := ⟨_, rfl⟩
  obtain ⟨FF, hFF⟩ : ∃ L, L = dyF s a b d0 n0 := ⟨_, rfl⟩
  obtain ⟨BB, hBB⟩ : ∃ L, L = dyB s a b d0 n0 := ⟨_, rfl⟩
  obtain ⟨KK, hKK⟩ : ∃ L, L = kOf (dyB s a b d0 n0) := ⟨_, rfl⟩
  rw [← hKK] at HSH HK0 HK1 HKZ
  rw [← hBB] at HKZ
  rw [← hLL] at HSH HK0
  rw [← hFF] at HK0 HK1
  rw [← hFF, ← hBB]
  clear hk0 hk1 hkz hKK hLL hFF hBB h_va hc0_0 hc1_0 hc1_1 hc2_0 hc3_0
  go_enter Try.func27, Try.ntmps27
  go_wp2_with fail
  rw [← hwb0, ← hwb1, ← hwb2, ← hwb3]
  clear hwb0 hwb1 hwb2 hwb3
  refine (HSH.out).mono ?_
  rintro e w1 ⟨hb, v, rfl, h⟩
  have HB := Lib.hid (joins HB3.out hb)
  have HH := Lib.hid (show OwnG w1 w.heap.size v FF from by
    rcases h with ⟨hk, h⟩ | ⟨hk, rfl⟩
    · rw [HK0.out hk]; exact OwnG.mono h (by rw [HS3.out]; omega)
    · rw [HK1.out hk]; exact OwnG.nil _ _)
  rw [HKZ.out]
  clear h hb
  go_wp2_with fail
  go_returns
  exact ⟨_, rfl, HH.out, HB.out⟩
end Go.Proofs.Ytapmehgdnofgnab
