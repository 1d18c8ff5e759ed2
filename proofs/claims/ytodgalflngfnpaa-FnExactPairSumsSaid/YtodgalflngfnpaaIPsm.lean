/- The program's PairSums. -/
import Derived.Test.YtodgalflngfnpaaIGo
import Derived.Test.YtodgalflngfnpaaICorr
namespace Go.Proofs.Ytodgalflngfnpaa
set_option maxRecDepth 100000
open Go.RowKit

set_option maxHeartbeats 1000000 in
theorem gaussOf_wide (a b : Int) (h1 : -64 ≤ a ∧ a ≤ 64) (h2 : -64 ≤ b ∧ b ≤ 64) (w : World) : Calls Try.prog 57 #[.complex .f32 (f32of a) (f32of b)] w (Ret w (.agg #[.int .i64 a, .int .i64 b])) := by
  have ha := fun w => run_convert_float_int (P := Try.prog) w 93 3 .f32 .i64 (f32of a) a rfl Try.underlying3 (f32_backw a h1)
  have hb := fun w => run_convert_float_int (P := Try.prog) w 93 3 .f32 .i64 (f32of b) b rfl Try.underlying3 (f32_backw b h2)
  obtain ⟨fa, hfa⟩ : ∃ fa, fa = f32of a := ⟨_, rfl⟩
  obtain ⟨fb, hfb⟩ : ∃ fb, fb = f32of b := ⟨_, rfl⟩
  rw [← hfa] at ha ⊢
  rw [← hfb] at hb ⊢
  clear hfa hfb h1 h2
  go_enter Try.func57, Try.ntmps57
  go_wp2
  go_returns
  exact ⟨rfl, by go_grown⟩

set_option maxHeartbeats 4000000 in
theorem ipairSums (va vb : Value) (a b : List Int) (w : World) (hva : IS w va a) (hvb : IS w vb b) (hla : a.length ≤ 1048576) (hlb : b.length ≤ 1048576) :
    Calls Try.prog 21 #[va, vb] w (MakesGB w (psL a b) (goOk a b)) := by
  obtain ⟨hp, hq, hpq⟩ := pr_facts a b
  obtain ⟨i0, hi, hz0, hz1, hz2⟩ := info_parts infoG
  have HI0 := Lib.hid hi
  have HZ00 := Lib.hid hz0
  have HZ10 := Lib.hid hz1
  have HZ20 := Lib.hid hz2
  have HPF := Lib.hid (pairFrom_any va vb a b w hva hvb hla hlb)
  have HIP := prIsPair_any (pL a b) (pR a b) hp
  rw [pr_ok] at HIP
  have HLN := Lib.hid (prLength_any (pL a b) (pR a b) hp)
  have h32 := isSeq_len hp
  have h32q := isSeq_len hq
  have HS := Lib.hid (fun (u : Int) h1 h2 => ownSum_any (pL a b) (pR a b) u hp hq hpq h1 h2)
  have HGO := Lib.hid (fun (u : Int) => gaussOf_wide (goT vx (pL a b) (pR a b) u) (goT vy (pL a b) (pR a b) u) (goT_small vx vx_one _ _ u h32 h32q) (goT_small vy vy_one _ _ u h32 h32q))
  have IC := Lib.hid (infoPrC (pL a b) (pR a b))
  have SC := Lib.hid (prC_size (pL a b) (pR a b))
  have OC := Lib.hid (prC_one (pL a b) (pR a b))
  have SZ := Lib.hid (prC_size [] [])
  have ZZ := Lib.hid zeroPr
  obtain ⟨Z, hZ⟩ : ∃ Z, Z = prC [] [] := ⟨_, rfl⟩
  rw [← hZ] at SZ ZZ
  obtain ⟨C, hC⟩ : ∃ Z, Z = prC (pL a b) (pR a b) := ⟨_, rfl⟩
  rw [← hC] at HPF HIP HLN HS IC SC OC
  have hps : psL a b = if goOk a b then genG (pL a b).length (fun u => goT vx (pL a b) (pR a b) (u : Int)) (fun u => goT vy (pL a b) (pR a b) (u : Int)) else [] := by
    unfold psL
    cases hg : goOk a b with
    | false => rfl
    | true => rw [(pr_yes hg).1, (pr_yes hg).2]
  rw [hps]
  obtain ⟨X, hX⟩ : ∃ X : Int → Int, X = fun u => goT vx (pL a b) (pR a b) u := ⟨_, rfl⟩
  obtain ⟨Y, hY⟩ : ∃ Y : Int → Int, Y = fun u => goT vy (pL a b) (pR a b) u := ⟨_, rfl⟩
  have hX1 : ∀ u, goT vx (pL a b) (pR a b) u = X u := fun u => by rw [hX]
  have hY1 : ∀ u, goT vy (pL a b) (pR a b) u = Y u := fun u => by rw [hY]
  simp only [hX1, hY1] at HS HGO ⊢
  obtain ⟨n, hn⟩ : ∃ n, n = (pL a b).length := ⟨_, rfl⟩
  rw [← hn] at HLN HS h32 ⊢
  obtain ⟨ok, hok⟩ : ∃ X, X = goOk a b := ⟨_, rfl⟩
  rw [← hok] at HIP ⊢
  have HIP' := Lib.hid HIP
  clear HIP hi hz0 hz1 hz2 hZ hC hps hX hY hX1 hY1 hn hok hp hq hpq hva hvb h32q
  cases ok with
  | false =>
    rw [if_neg (by decide)]
    have B0 := Lib.hid (Below.refl w.heap.size w)
    go_enter Try.func21, Try.ntmps21
    go_wp2_with fail
    refine (HPF.out).mono ?_
    rintro e w1 ⟨rfl, hb⟩
    have B1 := Lib.hid (joins B0.out hb)
    clear hb
    go_wp2_with (first
      | ((with_reducible refine at_op (d := some 6) (Op.alloc 50) ?_); refine wpList_alloc_row rfl 50 rfl Z (fun w => ZZ.out w) ?_; intro w2 hr hb hz; have R2_p := Lib.hid hr; have B2 := Lib.hid (joins B1.out hb); have L2_p := Lib.hid (show w.heap.size ≤ w1.heap.size from B1.out.size); clear hr hb hz)
      | ((with_reducible refine at_op (Op.store 50 (.tmp 6) (.tmp 11)) ?_); refine wpList_put_row rfl 50 (.tmp 6) (.tmp 11) rfl (w1.heap.size) C rfl rfl 50 Z R2_p.out 66 infoPr SC.out SZ.out OC.out w.heap.size w B2.out L2_p.out ?_; intro w3 hr hs hb; have R3_p := Lib.hid hr; have B3 := Lib.hid hb; clear hr hs hb)
      | ((with_reducible refine at_op (d := some 12) (Op.load 50 (.tmp 6)) ?_); refine wpList_load_part rfl 50 (.tmp 6) rfl (w1.heap.size) 0 rfl C C 50 (0, 0) _ R3_p.out (Part.self _) Try.underlying50 rfl IC.out ?_))
    refine (HIP'.out _).mono ?_
    rintro e w4 ⟨rfl, hb⟩
    have R4_p := Lib.hid (rowB R3_p.out hb)
    have B4 := Lib.hid (joins B3.out hb)
    clear hb
    go_wp2_with fail
    go_returns
    exact ⟨_, rfl, OwnG.nil _ _, B4.out⟩
  | true =>
    rw [if_pos rfl]
    have B0 := Lib.hid (Below.refl w.heap.size w)
    go_enter Try.func21, Try.ntmps21
    go_wp2_with fail
    refine (HPF.out).mono ?_
    rintro e w1 ⟨rfl, hb⟩
    have B1 := Lib.hid (joins B0.out hb)
    clear hb
    go_wp2_with (first
      | ((with_reducible refine at_op (d := some 6) (Op.alloc 50) ?_); refine wpList_alloc_row rfl 50 rfl Z (fun w => ZZ.out w) ?_; intro w2 hr hb hz; have R2_p := Lib.hid hr; have B2 := Lib.hid (joins B1.out hb); have L2_p := Lib.hid (show w.heap.size ≤ w1.heap.size from B1.out.size); clear hr hb hz)
      | ((with_reducible refine at_op (Op.store 50 (.tmp 6) (.tmp 11)) ?_); refine wpList_put_row rfl 50 (.tmp 6) (.tmp 11) rfl (w1.heap.size) C rfl rfl 50 Z R2_p.out 66 infoPr SC.out SZ.out OC.out w.heap.size w B2.out L2_p.out ?_; intro w3 hr hs hb; have R3_p := Lib.hid hr; have B3 := Lib.hid hb; clear hr hs hb)
      | ((with_reducible refine at_op (d := some 12) (Op.load 50 (.tmp 6)) ?_); refine wpList_load_part rfl 50 (.tmp 6) rfl (w1.heap.size) 0 rfl C C 50 (0, 0) _ R3_p.out (Part.self _) Try.underlying50 rfl IC.out ?_))
    refine (HIP'.out _).mono ?_
    rintro e w4 ⟨rfl, hb⟩
    have R4_p := Lib.hid (rowB R3_p.out hb)
    have B4 := Lib.hid (joins B3.out hb)
    clear hb
    go_wp2_with ((with_reducible refine at_op (d := some 15) (Op.load 50 (.tmp 6)) ?_); refine wpList_load_part rfl 50 (.tmp 6) rfl (w1.heap.size) 0 rfl C C 50 (0, 0) _ R4_p.out (Part.self _) Try.underlying50 rfl IC.out ?_)
    refine (HLN.out _).mono ?_
    rintro e w5 ⟨rfl, hb⟩
    have R5_p := Lib.hid (rowB R4_p.out hb)
    have B5 := Lib.hid (joins B4.out hb)
    clear hb
    go_wp2_with (at_make; refine wpList_make_full _ rfl _ _ 27 rfl w5.heap.size 54 i0 (.agg #[.int .i64 0, .int .i64 0]) 2 Try.underlying27 HI0.out HZ00.out HZ10.out _ _ _ _ n rfl rfl rfl rfl ?b2_1 ?b3_1 (Nat.le_refl _) ?_)
    case b2_1 => rw [HZ20.out]; omega
    case b3_1 => unfold maxLen; omega
    intro w6 hown0 hgrow0
    rw [zerosG] at hown0
    have hb : Below w5.heap.size w5 w6 := (Below.refl _ _).grown hgrow0 (Nat.le_refl _) (fun k h => by cases h)
    have R6_p := Lib.hid (rowB R5_p.out hb)
    have B6 := Lib.hid (joins B5.out hb)
    have O6_o := Lib.hid hown0
    have N6_p_o := Lib.hid (show w1.heap.size ≠ w5.heap.size from Nat.ne_of_lt (row_lt R5_p.out))
    have L6_o := Lib.hid (show w.heap.size ≤ w5.heap.size from B5.out.size)
    clear hown0 hgrow0 hb
    go_wp2_with fail
    go_loopw [20] (fun i wr => ∃ k : Nat, k ≤ n ∧ i = .int .i64 k ∧ wr.ownsRow w5.heap.size 54 2 (.slice (some ⟨w5.heap.size, 0, none⟩) n n) n (fl (genG k (fun u => X (u : Int)) (fun u => Y (u : Int)) ++ List.replicate (n - k) (0, 0))) ∧ wr.heap[w1.heap.size]? = some (.cells C 50 (0, 0)) ∧ Below w.heap.size w wr) (fun i _ => n - (intOf i).toNat)
    case atStart => exact ⟨0, Nat.zero_le _, rfl, O6_o.out, R6_p.out, B6.out⟩
    case round =>
      obtain ⟨k, hk, rfl, hown, hrow, hbel⟩ := hrel
      have HO := Lib.hid hown
      have RR := Lib.hid hrow
      have BR := Lib.hid hbel
      clear hown hrow hbel
      by_cases hlt : k < n
      · have h0 : (0 : Int) ≤ (k : Int) := by omega
        have h1 : (k : Int) < (n : Int) := by omega
        have HSk := Lib.hid (HS.out (k : Int) (by omega) (by omega))
        have HGk := Lib.hid (HGO.out (k : Int))
        have hset := genG_set n (fun u => X (u : Int)) (fun u => Y (u : Int)) k hlt
        obtain ⟨x, hx⟩ : ∃ x, x = X (k : Int) := ⟨_, rfl⟩
        obtain ⟨y, hy⟩ : ∃ y, y = Y (k : Int) := ⟨_, rfl⟩
        obtain ⟨fx, hfx⟩ : ∃ z, z = f32of x := ⟨_, rfl⟩
        obtain ⟨fy, hfy⟩ : ∃ z, z = f32of y := ⟨_, rfl⟩
        (try simp only [] at hset)
        rw [← hx, ← hy] at HSk HGk hset
        rw [← hfx, ← hfy] at HSk HGk
        have HSET := Lib.hid hset
        clear hx hy hfx hfy hset
        go_wp2_with ((with_reducible refine at_op (Op.load 50 (.tmp 6)) ?_); refine wpList_load_part rfl 50 (.tmp 6) rfl (w1.heap.size) 0 rfl C C 50 (0, 0) _ RR.out (Part.self _) Try.underlying50 rfl IC.out ?_)
        refine (HSk.out _).mono ?_
        rintro e w21 ⟨rfl, hb⟩
        have R21_p := Lib.hid (rowB RR.out hb)
        have O21_o := Lib.hid (rowBelow HO.out hb)
        have B21 := Lib.hid (joins BR.out hb)
        clear hb
        go_wp2_with fail
        refine (HGk.out _).mono ?_
        rintro e w22 ⟨rfl, hb⟩
        have R22_p := Lib.hid (rowB R21_p.out hb)
        have O22_o := Lib.hid (rowBelow O21_o.out hb)
        have B22 := Lib.hid (joins B21.out hb)
        clear hb
        have ho3 := O22_o.out
        have hl := genG_pad_len n (fun u => X (u : Int)) (fun u => Y (u : Int)) k hk
        have c1 : w22.cell? ⟨w5.heap.size, k * 2, none⟩ = some (.int .i64 (gre (genG k (fun u => X (u : Int)) (fun u => Y (u : Int)) ++ List.replicate (n - k) (0, 0)) k)) := by
          rw [ho3.cellAt (k * 2) (by omega)]
          exact fl_re _ k (by omega)
        have c2 : w22.cell? ⟨w5.heap.size, k * 2 + 1, none⟩ = some (.int .i64 (gim (genG k (fun u => X (u : Int)) (fun u => Y (u : Int)) ++ List.replicate (n - k) (0, 0)) k)) := by
          rw [ho3.cellAt (k * 2 + 1) (by omega)]
          exact fl_im _ k (by omega)
        obtain ⟨u1, hu1⟩ : ∃ x, x = gre (genG k (fun u => X (u : Int)) (fun u => Y (u : Int)) ++ List.replicate (n - k) (0, 0)) k := ⟨_, rfl⟩
        obtain ⟨u2, hu2⟩ : ∃ x, x = gim (genG k (fun u => X (u : Int)) (fun u => Y (u : Int)) ++ List.replicate (n - k) (0, 0)) k := ⟨_, rfl⟩
        rw [← hu1] at c1
        rw [← hu2] at c2
        have f1 := ho3.frozenAt (k * 2)
        have f2 := ho3.frozenAt (k * 2 + 1)
        clear ho3 hl hu1 hu2
        go_wp2_with fail
        go_roundw
        case rel =>
          have hs := O22_o.out.stored (k * 2) (.int .i64 x)
          have hs2 := hs.1.stored (k * 2 + 1) (.int .i64 y)
          rw [fl_set2 _ k (by rw [genG_pad_len n _ _ k hk]; exact hlt), HSET.out] at hs2
          exact ⟨k + 1, by omega, by go_num, hs2.1, (heap_setCell_other _ ⟨w5.heap.size, k * 2 + 1, none⟩ _ _ (fun e => N6_p_o.out e)).trans ((heap_setCell_other _ ⟨w5.heap.size, k * 2, none⟩ _ _ (fun e => N6_p_o.out e)).trans R22_p.out), belows (belows B22.out L6_o.out _) L6_o.out _⟩
        case measure => simp [intOf]; omega
      · have he : k = n := by omega
        subst he
        go_wp2_with fail
        go_returns
        have := HO.out
        rw [Nat.sub_self, List.replicate_zero, List.append_nil] at this
        exact ⟨_, rfl, by unfold OwnG; rw [genG_length]; exact rowMono this L6_o.out, BR.out⟩
end Go.Proofs.Ytodgalflngfnpaa
