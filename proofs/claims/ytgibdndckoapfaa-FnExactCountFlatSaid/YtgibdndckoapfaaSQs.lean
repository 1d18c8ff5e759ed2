/- The model's TransformOfSequence and IsFlat. -/
import Derived.Test.YtgibdndckoapfaaSTo
import Derived.Test.YtgibdndckoapfaaQsM
import Derived.Test.YtgibdndckoapfaaSEg
import Derived.Test.YtgibdndckoapfaaGMi
import Derived.Test.YtgibdndckoapfaaSPh
namespace Go.Proofs.Ytgibdndckoapfaa
set_option maxRecDepth 100000
open Go.RowKit

set_option maxRecDepth 100000 in
set_option maxHeartbeats 1000000 in
theorem tfSequence_any (v : Value) (s : List Int) (w : World) (hv : IS w v s) (hl : s.length ≤ 1048576) : Calls Try.prog 57 #[v] w (Ret w (.bool (sqTf s))) := by
  have HP := Lib.hid (phIs_any v s w hv hl)
  have HZ := Lib.hid (tfSize_any s.length)
  obtain ⟨a, cap, rfl⟩ := hv.slice
  unfold sqTf
  obtain ⟨n, hn⟩ : ∃ n, n = s.length := ⟨_, rfl⟩
  rw [← hn] at HP HZ ⊢
  cases h : isSeq s with
  | false =>
    rw [h] at HP
    clear h hv hn hl
    go_enter Try.func57, Try.ntmps57
    go_wp2_with fail
    refine (HP.out).mono ?_
    rintro e w1 ⟨rfl, hb⟩
    have HB := Lib.hid hb
    clear hb
    go_wp2_with fail
    go_returns
    exact ⟨rfl, HB.out⟩
  | true =>
    rw [h] at HP
    obtain ⟨q, hq⟩ : ∃ q, q = tfSz n := ⟨_, rfl⟩
    rw [← hq] at HZ ⊢
    clear h hv hn hl hq
    go_enter Try.func57, Try.ntmps57
    go_wp2_with fail
    refine (HP.out).mono ?_
    rintro e w1 ⟨rfl, hb⟩
    have HB := Lib.hid hb
    clear hb
    go_wp2_with fail
    refine (HZ.out _).mono ?_
    rintro e w2 ⟨rfl, rfl⟩
    go_wp2_with fail
    go_returns
    exact ⟨rfl, HB.out⟩
set_option maxRecDepth 100000 in
set_option maxHeartbeats 1000000 in
theorem tfValues_any (v : Value) (s : List Int) (w : World) (hv : IS w v s) (hs : sqTf s = true) : Calls Try.prog 58 #[v] w (MakesG w (vlL s)) := by
  have hlen := sqTf_len hs
  have hall := fun i hi => allIn_getD (isSeq_all (Bool.and_eq_true_iff.1 hs).1) i hi
  obtain ⟨a, cap, rfl⟩ := hv.slice
  obtain ⟨b, off, rfl, hc⟩ := hv.cellsAt (by omega)
  obtain ⟨n, hn⟩ : ∃ n, n = s.length := ⟨_, rfl⟩
  have hdl : vlL s = genG n (fun i => vx (s.getD i 0)) (fun i => vy (s.getD i 0)) := by rw [hn]; rfl
  rw [hdl, ← hn]
  rw [← hn] at hlen hall hc
  obtain ⟨X, hX⟩ : ∃ X, X = fun i => vx (s.getD i 0) := ⟨_, rfl⟩
  obtain ⟨Y, hY⟩ : ∃ X, X = fun i => vy (s.getD i 0) := ⟨_, rfl⟩
  rw [← hX, ← hY]
  have HXY := Lib.hid (show ∀ i, X i = vx (s.getD i 0) ∧ Y i = vy (s.getD i 0) from fun i => by rw [hX, hY]; exact ⟨rfl, rfl⟩)
  have HC := Lib.hid hc
  have HA := Lib.hid hall
  obtain ⟨hl1, hl2⟩ := hlen
  clear hv hc hn hdl hX hY hall hs
  go_enter Try.func58, Try.ntmps58
  go_wp2_with fail
  go_loopw [8, 3] (fun i o wr => ∃ k : Nat, k ≤ n ∧ i = .int .i64 k ∧ OwnG wr w.heap.size o (genG k X Y) ∧ Below w.heap.size w wr) (fun i _ _ => n - (intOf i).toNat)
  case atStart => exact ⟨0, Nat.zero_le _, rfl, OwnG.nil _ _, Below.refl _ _⟩
  case round =>
    obtain ⟨k, hk, rfl, hown, hbel⟩ := hrel
    have HB := Lib.hid hbel
    have HO := Lib.hid hown
    clear hown hbel
    by_cases hlt : k < n
    · have h0 : (0 : Int) ≤ (k : Int) := by omega
      have h1 : (k : Int) < (n : Int) := by omega
      have c1 := keepc HB.out (HC.out k hlt)
      have hp := HA.out k hlt
      have hxy := HXY.out k
      have hgs := genG_succ k X Y
      obtain ⟨z, hz⟩ : ∃ z, z = s.getD k 0 := ⟨_, rfl⟩
      rw [← hz] at c1 hp hxy
      have HV := Lib.hid (phValue_any z hp.1 hp.2)
      rw [← hxy.1, ← hxy.2] at HV
      obtain ⟨x, hx⟩ : ∃ x, x = X k := ⟨_, rfl⟩
      obtain ⟨y, hy⟩ : ∃ y, y = Y k := ⟨_, rfl⟩
      rw [← hx, ← hy] at HV hgs
      have HGS := Lib.hid hgs
      have HGL := Lib.hid (show (genG k X Y).length ≤ 1048576 by rw [genG_length]; omega)
      clear hp hxy hgs hz hx hy
      go_wp2_with fail
      refine (HV.out _).mono ?_
      rintro e w2 ⟨rfl, hb⟩
      have HB2 := Lib.hid (joins HB.out hb)
      have HO2 := Lib.hid (HO.out.below hb)
      clear hb c1
      go_wp2_with (at_builtin; refine wpList_pushG rfl _ _ rfl w.heap.size _ (genG k X Y) rfl (HO2.out.alloc _) w2.heap.size 1 x y rfl (cell_new0 _ _ _ _) (cell_new1 _ _ _ _) HGL.out w.heap.size w (HB2.out.alloc HB2.out.size _) (Nat.le_refl _) (by have := HB2.out.size; simp; omega) (by have := HB2.out.size; simp; omega) ?_; intro v3 w3 ho3 hb3)
      go_roundw
      case rel => exact ⟨k + 1, by omega, by go_num, by rw [HGS.out]; exact ho3, hb3⟩
      case measure => simp [intOf]; omega
    · obtain rfl : k = n := by omega
      go_wp2_with fail
      go_returns
      exact ⟨_, rfl, HO.out, HB.out⟩
set_option maxRecDepth 100000 in
set_option maxHeartbeats 1000000 in
theorem stransformOfSequence (v : Value) (s : List Int) (w : World) (hv : IS w v s) (hl : s.length ≤ 1048576) : Calls Try.prog 27 #[v] w (MakesGB w (tqA s) (sqTf s)) := by
  have HS := Lib.hid (tfSequence_any v s w hv hl)
  unfold tqA
  cases h : sqTf s with
  | false =>
    rw [h] at HS
    rw [if_neg Bool.false_ne_true]
    clear h hv hl
    go_enter Try.func27, Try.ntmps27
    go_wp2_with fail
    refine (HS.out).mono ?_
    rintro e w1 ⟨rfl, hb⟩
    have HB := Lib.hid hb
    clear hb
    go_wp2_with fail
    go_returns
    exact ⟨_, rfl, OwnG.nil _ _, HB.out⟩
  | true =>
    rw [h] at HS
    rw [if_pos rfl]
    have HV := Lib.hid (fun w' (hb : Below w.heap.size w w') => tfValues_any v s w' (hv.below hb) h)
    have HT := Lib.hid (fun v' w' B (ho : OwnG w' B v' (vlL s)) => tfOf_any v' (vlL s) 1 (Or.inl rfl) w' ho.is (by rw [vlL_len]; exact (sqTf_len h).2) (vlL_le' s))
    obtain ⟨V, hV⟩ : ∃ V, V = vlL s := ⟨_, rfl⟩
    rw [← hV] at HV HT ⊢
    obtain ⟨L, hL⟩ : ∃ L, L = drL 1 V := ⟨_, rfl⟩
    rw [← hL] at HT ⊢
    clear h hv hl hV hL
    go_enter Try.func27, Try.ntmps27
    go_wp2_with fail
    refine (HS.out).mono ?_
    rintro e w1 ⟨rfl, hb⟩
    have HB1 := Lib.hid hb
    clear hb
    go_wp2_with fail
    refine (HV.out _ HB1.out).mono ?_
    rintro e w2 ⟨v2, rfl, ho, hb⟩
    have HB2 := Lib.hid (joins HB1.out hb)
    have HO2 := Lib.hid ho
    clear ho hb
    go_wp2_with fail
    refine (HT.out _ _ _ HO2.out).mono ?_
    rintro e w3 ⟨v3, rfl, ho, hb⟩
    have HB3 := Lib.hid (joins HB2.out hb)
    have HO3 := Lib.hid (ho.mono HB2.out.size)
    clear ho hb
    go_wp2_with fail
    go_returns
    exact ⟨_, rfl, HO3.out, HB3.out⟩
set_option maxRecDepth 100000 in
set_option maxHeartbeats 2000000 in
theorem tfFlat_any (v : Value) (s : List Int) (w : World) (hv : IS w v s) (h : sqTf s = true) : Calls Try.prog 61 #[v] w (Ret w (.bool (flB s))) := by
  have HV := Lib.hid (fun w' (hb : Below w.heap.size w w') => tfValues_any v s w' (hv.below hb) h)
  have HT := Lib.hid (fun v' w' B (ho : OwnG w' B v' (vlL s)) => tfOf_any v' (vlL s) 1 (Or.inl rfl) w' ho.is (by rw [vlL_len]; exact (sqTf_len h).2) (vlL_le' s))
  have hlen := sqTf_len h
  have hdl : drL 1 (vlL s) = genG s.length (drX 1 (vlL s) s.length) (drY 1 (vlL s) s.length) := by unfold drL; rw [vlL_len]
  rw [hdl] at HT
  have HTL := Lib.hid (fun p => tq_le h p)
  obtain ⟨V, hV⟩ : ∃ V, V = vlL s := ⟨_, rfl⟩
  have HFA := Lib.hid (show ∀ p, flAt s p = decide (norm (drX 1 V s.length p) (drY 1 V s.length p) = (s.length : Int)) from fun p => by rw [hV]; rfl)
  have HFS := Lib.hid (fun k => flTo_succ s k)
  have HFN := Lib.hid (fun k hk hh => @fl_no s k hk hh)
  have HFB := Lib.hid (show flB s = flTo s s.length from rfl)
  rw [← hV] at HV HT HTL
  obtain ⟨a, cap, rfl⟩ := hv.slice
  obtain ⟨n, hn⟩ : ∃ n, n = s.length := ⟨_, rfl⟩
  rw [← hn] at HV HT HTL HFA HFN HFB hlen ⊢
  obtain ⟨FX, hFX⟩ : ∃ F, F = drX 1 V n := ⟨_, rfl⟩
  obtain ⟨FY, hFY⟩ : ∃ F, F = drY 1 V n := ⟨_, rfl⟩
  rw [← hFX, ← hFY] at HT HTL HFA
  obtain ⟨q, hq⟩ : ∃ q, q = flB s := ⟨_, rfl⟩
  rw [← hq]
  have HQ := Lib.hid hq
  obtain ⟨hl1, hl2⟩ := hlen
  clear hv h hdl hV hFX hFY hq hn
  go_enter Try.func61, Try.ntmps61
  go_wp2_with fail
  refine (HV.out _ (Below.refl _ _)).mono ?_
  rintro e w1 ⟨v1, rfl, ho, hb⟩
  have HB1 := Lib.hid hb
  have HO1 := Lib.hid ho
  clear ho hb
  go_wp2_with fail
  refine (HT.out _ _ _ HO1.out).mono ?_
  rintro e w2 ⟨v2, rfl, ho, hb⟩
  have HB2 := Lib.hid (joins HB1.out hb)
  obtain ⟨gg, cc, rfl, -, -, hcc⟩ := ho.parts (by rw [genG_length]; omega)
  rw [genG_length]
  have HC := Lib.hid (show ∀ i, i < n → w2.cell? ⟨gg, i * 2, none⟩ = some (.int .i64 (FX i)) ∧ w2.cell? ⟨gg, i * 2 + 1, none⟩ = some (.int .i64 (FY i)) from fun i hi => by
    have h1 := hcc (i * 2) _ (fl_re _ i (by rw [genG_length]; exact hi))
    have h2 := hcc (i * 2 + 1) _ (fl_im _ i (by rw [genG_length]; exact hi))
    rw [genG_re _ _ _ i hi] at h1
    rw [genG_im _ _ _ i hi] at h2
    exact ⟨h1, h2⟩)
  clear ho hb hcc
  go_wp2_with fail
  go_loopw [9] (fun i wr => ∃ k : Nat, k ≤ n ∧ i = .int .i64 k ∧ flTo s k = true ∧ Below w2.heap.size w2 wr) (fun i _ => n - (intOf i).toNat)
  case atStart => exact ⟨0, Nat.zero_le _, rfl, rfl, Below.refl _ _⟩
  case round =>
    obtain ⟨k, hk, rfl, hall, hbel⟩ := hrel
    have HA := Lib.hid hall
    have HB := Lib.hid hbel
    clear hall hbel
    by_cases hlt : k < n
    · have h0 : (0 : Int) ≤ (k : Int) := by omega
      have h1 : (k : Int) < (n : Int) := by omega
      have c1 := keepc HB.out (HC.out k hlt).1
      have c2 := keepc HB.out (HC.out k hlt).2
      have hle := HTL.out k
      have hfa := HFA.out k
      have hns := norm_small hle.1 hle.2
      have HN := Lib.hid (phNorm_any (FX k) (FY k) (by unfold good; apply decide_eq_true; omega))
      obtain ⟨x, hx⟩ : ∃ x, x = FX k := ⟨_, rfl⟩
      obtain ⟨y, hy⟩ : ∃ y, y = FY k := ⟨_, rfl⟩
      rw [← hx, ← hy] at hfa hns HN
      rw [← hx] at c1
      rw [← hy] at c2
      obtain ⟨m, hm⟩ : ∃ m, m = norm x y := ⟨_, rfl⟩
      rw [← hm] at hfa hns HN
      clear hle hx hy hm
      by_cases he : m = (n : Int)
      · rw [decide_eq_true he] at hfa
        have HNX := Lib.hid (show flTo s (k + 1) = true by rw [HFS.out, HA.out, hfa]; rfl)
        subst he
        clear hfa
        go_wp2_with fail
        refine (HN.out _).mono ?_
        rintro e w3 ⟨rfl, hb⟩
        have HB3 := Lib.hid (joins (belowa HB.out _) hb)
        clear hb
        go_wp2_with fail
        go_roundw
        case rel => exact ⟨k + 1, by omega, by go_num, HNX.out, HB3.out⟩
        case measure => simp [intOf]; omega
      · rw [decide_eq_false he] at hfa
        have HNX := Lib.hid (HFN.out k hlt hfa)
        have hne : (m == (n : Int)) = false := by simpa using he
        clear hfa he
        go_wp2_with fail
        refine (HN.out _).mono ?_
        rintro e w3 ⟨rfl, hb⟩
        have HB3 := Lib.hid (joins (belowa HB.out _) hb)
        clear hb
        go_wp2_with fail
        go_returns
        exact ⟨ret_bool (by rw [HQ.out, HNX.out]), joins HB2.out HB3.out⟩
    · obtain rfl : k = n := by omega
      go_wp2_with fail
      go_returns
      exact ⟨ret_bool (by rw [HQ.out, HFB.out, HA.out]), joins HB2.out HB.out⟩
set_option maxRecDepth 100000 in
set_option maxHeartbeats 1000000 in
theorem sisFlat (v : Value) (s : List Int) (w : World) (hv : IS w v s) (hl : s.length ≤ 1048576) : Calls Try.prog 32 #[v] w (Ret w (.tuple #[.bool (sqTf s && flB s), .bool (sqTf s)])) := by
  have HS := Lib.hid (tfSequence_any v s w hv hl)
  cases h : sqTf s with
  | false =>
    rw [h] at HS
    clear h hv hl
    go_enter Try.func32, Try.ntmps32
    go_wp2_with fail
    refine (HS.out).mono ?_
    rintro e w1 ⟨rfl, hb⟩
    have HB := Lib.hid hb
    clear hb
    go_wp2_with fail
    go_returns
    exact ⟨rfl, HB.out⟩
  | true =>
    rw [h] at HS
    have HF := Lib.hid (fun w' (hb : Below w.heap.size w w') => tfFlat_any v s w' (hv.below hb) h)
    obtain ⟨q, hq⟩ : ∃ q, q = flB s := ⟨_, rfl⟩
    rw [← hq] at HF ⊢
    clear h hv hl hq
    go_enter Try.func32, Try.ntmps32
    go_wp2_with fail
    refine (HS.out).mono ?_
    rintro e w1 ⟨rfl, hb⟩
    have HB := Lib.hid hb
    clear hb
    go_wp2_with fail
    refine (HF.out _ HB.out).mono ?_
    rintro e w2 ⟨rfl, hb⟩
    have HB2 := Lib.hid (joins HB.out hb)
    clear hb
    go_wp2_with fail
    go_returns
    exact ⟨rfl, HB2.out⟩
end Go.Proofs.Ytgibdndckoapfaa
