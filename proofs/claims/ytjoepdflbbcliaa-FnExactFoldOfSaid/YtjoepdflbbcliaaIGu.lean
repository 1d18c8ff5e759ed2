/- The program's isFolded and UnfoldOf. -/
import Derived.Test.YtjoepdflbbcliaaIGm
import Derived.Test.YtjoepdflbbcliaaUfM
import Derived.Test.YtjoepdflbbcliaaGcd
namespace Go.Proofs.Ytjoepdflbbcliaa
set_option maxRecDepth 100000
open Go.RowKit

def fdOk (n m : Nat) : Bool := sideB n && (sideB m && decide (gcdN n m = 1))
set_option maxHeartbeats 1000000 in
theorem isFolded_any (n m : Nat) (hn : n ≤ 1000000000) (hm : m ≤ 1000000000) (w : World) : Calls Try.prog 51 #[.int .i64 n, .int .i64 m] w (Ret w (.bool (fdOk n m))) := by
  have H1 := Lib.hid (isSide_any n)
  have H2 := Lib.hid (isSide_any m)
  have H3 := Lib.hid (fun w' => show Calls Try.prog 63 #[.int .i64 n, .int .i64 m] w' (Ret w' (.int .i64 (gcdN n m : Nat))) from commonDivisor_any n m hn hm w')
  unfold fdOk
  obtain ⟨g, hg⟩ : ∃ g, g = gcdN n m := ⟨_, rfl⟩
  rw [← hg] at H3 ⊢
  clear hg hn hm
  cases h1 : sideB n with
  | false =>
    rw [h1] at H1
    rw [Bool.false_and]
    clear h1
    go_enter Try.func51, Try.ntmps51
    go_wp2_with fail
    refine (H1.out _).mono ?_
    rintro e w1 ⟨rfl, rfl⟩
    go_wp2_with fail
    go_returns
    exact ⟨rfl, Below.refl _ _⟩
  | true =>
    rw [h1] at H1
    rw [Bool.true_and]
    clear h1
    cases h2 : sideB m with
    | false =>
      rw [h2] at H2
      rw [Bool.false_and]
      clear h2
      go_enter Try.func51, Try.ntmps51
      go_wp2_with fail
      refine (H1.out _).mono ?_
      rintro e w1 ⟨rfl, rfl⟩
      go_wp2_with fail
      refine (H2.out _).mono ?_
      rintro e w1 ⟨rfl, rfl⟩
      go_wp2_with fail
      go_returns
      exact ⟨rfl, Below.refl _ _⟩
    | true =>
      rw [h2] at H2
      rw [Bool.true_and]
      clear h2
      go_enter Try.func51, Try.ntmps51
      go_wp2_with fail
      refine (H1.out _).mono ?_
      rintro e w1 ⟨rfl, rfl⟩
      go_wp2_with fail
      refine (H2.out _).mono ?_
      rintro e w1 ⟨rfl, rfl⟩
      go_wp2_with fail
      refine (H3.out _).mono ?_
      rintro e w1 ⟨rfl, hb⟩
      go_wp2_with fail
      go_returns
      exact ⟨ret_bool (by rw [Bool.eq_iff_iff]; simp; try omega), hb⟩
theorem ufOk_fd (l : List (List Int)) : ufOk l = (fdOk (gfN l) (gfM l) && decide (gfN l * gfM l ≤ 32)) := by
  unfold ufOk fdOk gfN gfM
  cases h : arOk l with
  | false => rw [if_neg Bool.false_ne_true, show sideB 0 = false from rfl]; rfl
  | true =>
    rw [if_pos rfl, if_pos rfl]
    have hp := arOk_parts h
    rw [show sideB l.length = true from decide_eq_true hp.1, show sideB (colsOf l) = true from decide_eq_true hp.2.1]
    rfl
set_option maxRecDepth 100000 in
set_option maxHeartbeats 4000000 in
theorem iunfoldOf (v : Value) (l : List (List Int)) (w : World) (hv : IR w v l) (hl : sz2 l ≤ 1048576) : Calls Try.prog 32 #[v] w (MakesB w (ufA l) (ufOk l)) := by
  have HF := Lib.hid (gridFrom_any v l w hv hl)
  have SC := Lib.hid (show (gfV l).size = 66 from grA_size _ _ _)
  have OC := Lib.hid (show (gfV l).all (·.oneCell') = true from grA_one _ _ _)
  have IC := Lib.hid (show (Try.prog.info? 66).map (·.size) = some (gfV l).size from infoGrA _ _ _)
  have HR := Lib.hid (show (gfV l)[64]? = some (.int .i64 (gfN l)) from grA_rows _ _ _)
  have HM := Lib.hid (show (gfV l)[65]? = some (.int .i64 (gfM l)) from grA_cols _ _ _)
  have ZZ := Lib.hid zeroGr
  have hn8 : gfN l ≤ 8 := by
    unfold gfN
    split
    · rename_i h; exact (arOk_parts h).1.2
    · omega
  have hm8 : gfM l ≤ 8 := by
    unfold gfM
    split
    · rename_i h; exact (arOk_parts h).2.1.2
    · omega
  have HFO := Lib.hid (isFolded_any (gfN l) (gfM l) (by omega) (by omega))
  have HPR := Lib.hid (show (gfN l : Int) * (gfM l : Int) = ((gfN l * gfM l : Nat) : Int) by push_cast; rfl)
  have hnm : gfN l * gfM l ≤ 64 := Nat.mul_le_mul hn8 hm8
  have hok := ufOk_fd l
  have HYES : ufOk l = true → ufA l = gen (gfN l * gfM l) (fun t => atM l (t % gfN l) (t % gfM l)) ∧ ∀ (t : Nat) w', t < 1000 → Calls Try.prog 56 #[.agg (gfV l), .int .i64 t, .int .i64 t] w' (Ret w' (.int .i64 (atM l (t % gfN l) (t % gfM l)))) := fun h => by
    have ha : arOk l = true := by unfold ufOk at h; exact (Bool.and_eq_true_iff.1 h).1
    have hp := arOk_parts ha
    have e1 : gfN l = l.length := by unfold gfN; rw [ha]; rfl
    have e2 : gfM l = colsOf l := by unfold gfM; rw [ha]; rfl
    refine ⟨?_, fun t w' ht => ?_⟩
    · unfold ufA
      rw [h, if_pos rfl, e1, e2]
      rfl
    · have h2 := around_any l.length (colsOf l) (atM l) (t : Int) (t : Int) hp.1 hp.2.1 (by omega) (by omega) w'
      rw [show ((t : Int) % (l.length : Int)).toNat = t % l.length from Int.toNat_natCast (t % l.length), show ((t : Int) % (colsOf l : Int)).toNat = t % colsOf l from Int.toNat_natCast (t % colsOf l)] at h2
      rw [gfV_yes ha, e1, e2]
      exact h2
  have hno : ufOk l = false → ufA l = [] := fun h => by unfold ufA; rw [h]; rfl
  obtain ⟨C, hC⟩ : ∃ C, C = gfV l := ⟨_, rfl⟩
  rw [← hC] at HF SC OC IC HR HM
  simp only [← hC] at HYES
  obtain ⟨n, hn⟩ : ∃ n, n = gfN l := ⟨_, rfl⟩
  obtain ⟨m, hm⟩ : ∃ n, n = gfM l := ⟨_, rfl⟩
  obtain ⟨F, hF⟩ : ∃ F : Nat → Int, F = fun t => atM l (t % gfN l) (t % gfM l) := ⟨_, rfl⟩
  have eF : ∀ t, atM l (t % gfN l) (t % gfM l) = F t := fun t => by rw [hF]
  simp only [eF] at HYES
  rw [← hn] at HR HFO HPR hnm hok HYES
  rw [← hm] at HM HFO HPR hnm hok HYES
  obtain ⟨N, hN⟩ : ∃ N, N = n * m := ⟨_, rfl⟩
  rw [← hN] at HPR hnm hok HYES
  obtain ⟨f, hf⟩ : ∃ f, f = fdOk n m := ⟨_, rfl⟩
  rw [← hf] at HFO hok
  obtain ⟨L, hL⟩ : ∃ L, L = ufA l := ⟨_, rfl⟩
  rw [← hL] at HYES hno ⊢
  obtain ⟨q, hq⟩ : ∃ q, q = ufOk l := ⟨_, rfl⟩
  rw [← hq] at HYES hno hok ⊢
  have HY := Lib.hid HYES
  have HNO := Lib.hid hno
  obtain ⟨pa, cap, rfl⟩ := hv.slice
  clear hv hl hC hn hm hF eF hN hf hL hq HYES hno hn8 hm8
  go_enter Try.func32, Try.ntmps32
  go_wp2_with fail
  refine (HF.out).mono ?_
  rintro e w1 ⟨rfl, hb⟩
  have B1 := Lib.hid hb
  clear hb
  go_wp2_with (first
    | ((with_reducible refine at_op (d := some 4) (Op.alloc 66) ?_); refine wpList_alloc_row rfl 66 rfl (grA G0 0 0) (fun w => ZZ.out w) ?_; intro w2 hr hb hz; have R2 := Lib.hid hr; have B2 := Lib.hid (joins B1.out hb); have L2 := Lib.hid (show w.heap.size ≤ w1.heap.size from B1.out.size); clear hr hb hz)
    | ((with_reducible refine at_op (Op.store 66 (.tmp 4) (.tmp 8)) ?_); refine wpList_put_row rfl 66 (.tmp 4) (.tmp 8) rfl (w1.heap.size) C rfl rfl 66 (grA G0 0 0) R2.out 66 infoGr SC.out (grA_size _ _ _) OC.out w.heap.size w B2.out L2.out ?_; intro w3 hr hs hb; have R3 := Lib.hid hr; have B3 := Lib.hid hb; have c0 := rowC R3.out HR.out; have c1 := rowC R3.out HM.out; clear hr hs hb))
  clear c0 c1
  refine (HFO.out _).mono ?_
  rintro e w4 ⟨rfl, hb⟩
  have R4 := Lib.hid (rowB R3.out hb)
  have B4 := Lib.hid (joins B3.out hb)
  have c0 := rowC R4.out HR.out
  have c1 := rowC R4.out HM.out
  have hpr := HPR.out
  clear hb
  cases f with
  | false =>
    rw [Bool.false_and] at hok
    subst hok
    have HE := Lib.hid (HNO.out rfl)
    go_wp2_with fail
    go_returns
    refine ⟨_, rfl, ?_, B4.out⟩
    rw [HE.out]
    exact World.ownsRow_nil _ _ _ _
  | true =>
    rw [Bool.true_and] at hok
    by_cases h32 : N ≤ 32
    · rw [decide_eq_true h32] at hok
      subst hok
      have h32' : ¬ (32 : Int) < (N : Int) := by omega
      obtain ⟨HLD, har⟩ := HY.out rfl
      have HAR := Lib.hid har
      have HLD' := Lib.hid HLD
      have PB := Lib.hid (phL_built (N : Int))
      clear har HLD
      go_wp2_with (first
        | (refine wpList_alloc_big rfl 47 rfl (phA z32 0) zeroPh ?_)
        | ((with_reducible refine at_op (Op.build 47 #[(1, .tmp 27)]) ?_); refine wpList_build_row rfl 47 [(1, .tmp 27)] rfl (phA z32 N) PB.out ?_)
        | (refine wpList_store_big rfl 47 (.tmp 5) (.tmp 28) rfl w4.heap.size (phA z32 N) rfl rfl 47 _ (heap_alloc_new w4 _) 33 infoPh (phA_size _ _ z32_length) (phA_size _ _ z32_length) (phA_one _ _) w4.heap.size w4 (belowa (Below.refl _ _) _) (Nat.le_refl _) ?_; intro w5 hg5 ho5 hz5 hb5; have R5 := Lib.hid hg5; have RG5 := Lib.hid (rowB R4.out hb5); have B5 := Lib.hid (joins B4.out hb5); have c32 := rowC R5.out (phA_len z32 N z32_length); clear hg5 ho5 hz5 hb5))
      clear c0 c1 hpr c32
      have NGP := Lib.hid (Nat.ne_of_lt (row_lt R4.out))
      have LGP := Lib.hid (show w.heap.size ≤ w4.heap.size from B4.out.size)
      obtain ⟨gp, hgp⟩ : ∃ g, g = w4.heap.size := ⟨_, rfl⟩
      rw [← hgp] at R5 NGP LGP ⊢
      obtain ⟨gg, hgg⟩ : ∃ g, g = w1.heap.size := ⟨_, rfl⟩
      rw [← hgg] at RG5 NGP ⊢
      clear hgp hgg R2 R3 R4 B1 B2 B3 B4 L2
      go_loopw [31] (fun i wr => ∃ t : Nat, t ≤ N ∧ i = .int .i64 t ∧ wr.heap[gg]? = some (.cells C 66 (0, 0)) ∧ wr.heap[gp]? = some (.cells (phA (padL (gen t F)) N) 47 (0, 0)) ∧ Below w.heap.size w wr) (fun i _ => N - (intOf i).toNat)
      case atStart => exact ⟨0, Nat.zero_le _, rfl, RG5.out, R5.out, B5.out⟩
      case round =>
        obtain ⟨t, ht, rfl, hg, hp, hbel⟩ := hrel
        have RG := Lib.hid hg
        have RP := Lib.hid hp
        have RB := Lib.hid hbel
        clear hg hp hbel
        have hpl : (padL (gen t F)).length = 32 := padL_length (by rw [gen_length]; omega)
        by_cases hlt : t < N
        · have h0 : (0 : Int) ≤ (t : Int) := by omega
          have h1 : (t : Int) < (N : Int) := by omega
          have h2 : (t : Int) < 32 := by omega
          have HA1 := Lib.hid (fun w' => HAR.out t w' (by omega))
          have hset := fun (w' : World) (h : w'.heap[gp]? = some (.cells (phA (padL (gen t F)) N) 47 (0, 0))) => heap_setCell_same w' gp t _ _ (.int .i64 (F t)) h
          simp only [phA_set (padL (gen t F)) (N : Int) t (by rw [hpl]; omega), pad_snoc F t (by omega)] at hset
          have HCP := Lib.hid (fun (w' : World) (h : w'.heap[gp]? = some (.cells (phA (padL (gen t F)) N) 47 (0, 0))) => rowC h (phA_get (padL (gen t F)) (N : Int) t (by rw [hpl]; omega)))
          obtain ⟨x, hx⟩ : ∃ x, x = F t := ⟨_, rfl⟩
          rw [← hx] at hset HA1
          have HSET := Lib.hid hset
          clear hset hpl hx
          go_wp2_with ((with_reducible refine at_op (Op.load 66 (.tmp 4)) ?_); refine wpList_load_part rfl 66 (.tmp 4) rfl gg 0 rfl C C 66 (0, 0) _ RG.out (Part.self _) Try.underlying66 rfl IC.out ?_)
          refine (HA1.out _).mono ?_
          rintro e w6 ⟨rfl, hb⟩
          have RG6 := Lib.hid (rowB RG.out hb)
          have RP6 := Lib.hid (rowB RP.out hb)
          have RB6 := Lib.hid (joins RB.out hb)
          have ct := HCP.out _ RP6.out
          have ft := rowFree (i := t) RP6.out
          clear hb
          go_wp2_with fail
          go_roundw
          case rel => exact ⟨t + 1, by omega, by go_num, (heap_setCell_other w6 ⟨gp, t, none⟩ gg _ NGP.out).trans RG6.out, HSET.out _ RP6.out, belows RB6.out LGP.out _⟩
          case measure => simp [intOf]; omega
        · obtain rfl : t = N := by omega
          have hls := list_any (padL (gen t F)) t hpl (by omega)
          rw [show (padL (gen t F)).take t = gen t F from by have h := pad_take (gen t F); rwa [gen_length] at h] at hls
          have HLS := Lib.hid hls
          have IP := Lib.hid (show (Try.prog.info? 47).map (·.size) = some (phA (padL (gen t F)) (t : Int)).size by rw [phA_size _ _ hpl]; exact infoPh)
          obtain ⟨D, hD⟩ : ∃ D, D = phA (padL (gen t F)) (t : Int) := ⟨_, rfl⟩
          rw [← hD] at HLS RP IP
          clear hls hD hpl
          go_wp2_with (refine wpList_load_row rfl 47 (.tmp 5) rfl gp rfl 47 D (0, 0) _ RP.out Try.underlying47 rfl IP.out ?_)
          refine (HLS.out _).mono ?_
          rintro e w7 ⟨v7, rfl, ho, hb⟩
          have HO := Lib.hid (ho.mono RB.out.size)
          have B7 := Lib.hid (joins RB.out hb)
          clear ho hb
          go_wp2_with fail
          go_returns
          refine ⟨_, rfl, ?_, B7.out⟩
          rw [HLD'.out]
          exact HO.out
    · rw [decide_eq_false h32] at hok
      subst hok
      have HE := Lib.hid (HNO.out rfl)
      have h32' : (32 : Int) < (N : Int) := by omega
      go_wp2_with fail
      go_returns
      refine ⟨_, rfl, ?_, B4.out⟩
      rw [HE.out]
      exact World.ownsRow_nil _ _ _ _
end Go.Proofs.Ytjoepdflbbcliaa
