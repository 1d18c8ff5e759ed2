/- The model's peSide, OuterArray, ShiftMatrix, pePlace, ShiftArray. -/
import Derived.Test.YtjoepdflbbcliabArG
import Derived.Test.YtjoepdflbbcliabSAr
import Derived.Test.YtjoepdflbbcliabSMov
import Derived.Test.YtjoepdflbbcliabBShiftBy
namespace Go.Proofs.Ytjoepdflbbcliab
set_option maxRecDepth 100000
open Go.RowKit

set_option maxHeartbeats 1000000 in
theorem peSide_any (v : Value) (l : List Int) (w : World) (hv : IS w v l) (hl : l.length ≤ 1048576) : Calls Try.prog 46 #[v] w (Ret w (.bool (sideS l))) := by
  have HI := Lib.hid (phIs_any v l w hv hl)
  have HC := Lib.hid (fun w => show Calls Try.prog 52 #[.int .i64 l.length, .int .i64 1, .int .i64 8] w (Pure w (.bool (sideB l.length))) by
    have h := l1In_any l.length 1 8 w
    rwa [inB_side] at h)
  unfold sideS
  obtain ⟨a, cap, rfl⟩ := hv.sl
  obtain ⟨s, hs⟩ : ∃ s, s = sideB l.length := ⟨_, rfl⟩
  rw [← hs] at HC ⊢
  clear hv hs
  cases hq : isSeq l with
  | false =>
    rw [hq] at HI
    rw [Bool.false_and]
    clear hq
    go_enter Try.func46, Try.ntmps46
    go_wp2_with fail
    refine (HI.out).mono ?_
    rintro e w1 ⟨rfl, hb⟩
    go_wp2_with fail
    go_returns
    exact ⟨rfl, hb⟩
  | true =>
    rw [hq] at HI
    rw [Bool.true_and]
    clear hq
    go_enter Try.func46, Try.ntmps46
    go_wp2_with fail
    refine (HI.out).mono ?_
    rintro e w1 ⟨rfl, hb⟩
    go_wp2_with fail
    refine (HC.out _).mono ?_
    rintro e w2 ⟨rfl, rfl⟩
    go_wp2_with fail
    go_returns
    exact ⟨rfl, hb⟩

set_option maxRecDepth 100000 in
set_option maxHeartbeats 2000000 in
theorem souterArray (va vb : Value) (a b : List Int) (w : World) (hva : IS w va a) (hvb : IS w vb b) (hla : a.length ≤ 1048576) (hlb : b.length ≤ 1048576) :
    Calls Try.prog 20 #[va, vb] w (MakesRB w (otA a b) (otOk a b)) := by
  have HSA := Lib.hid (peSide_any va a w hva hla)
  have HSB := Lib.hid (fun w' (h : Below w.heap.size w w') => peSide_any vb b w' (hvb.below h) hlb)
  unfold otA otOk
  have HVA := Lib.hid hva
  have HVB := Lib.hid hvb
  obtain ⟨pa, ca, rfl⟩ := hva.sl
  obtain ⟨pb, cb, rfl⟩ := hvb.sl
  cases ha : sideS a with
  | false =>
    rw [ha] at HSA
    rw [Bool.false_and, if_neg Bool.false_ne_true]
    clear ha hva hvb HVA HVB HSB
    go_enter Try.func20, Try.ntmps20
    go_wp2_with fail
    refine (HSA.out).mono ?_
    rintro e w1 ⟨rfl, hb⟩
    have HB1 := Lib.hid hb
    clear hb
    go_wp2_with fail
    go_returns
    exact ⟨_, rfl, OwnR.nil _ _, HB1.out⟩
  | true =>
    rw [ha] at HSA
    rw [Bool.true_and]
    cases hb : sideS b with
    | false =>
      rw [hb] at HSB
      rw [if_neg Bool.false_ne_true]
      clear ha hb hva hvb HVA HVB
      go_enter Try.func20, Try.ntmps20
      go_wp2_with fail
      refine (HSA.out).mono ?_
      rintro e w1 ⟨rfl, hb⟩
      have HB1 := Lib.hid hb
      clear hb
      go_wp2_with fail
      refine (HSB.out _ HB1.out).mono ?_
      rintro e w2 ⟨rfl, hb⟩
      have HB2 := Lib.hid (joins HB1.out hb)
      clear hb
      go_wp2_with fail
      go_returns
      exact ⟨_, rfl, OwnR.nil _ _, HB2.out⟩
    | true =>
      rw [hb] at HSB
      rw [if_pos rfl]
      obtain ⟨hqa, hn1, hn8⟩ := sideS_parts ha
      have hqb := (sideS_parts hb).1
      have HIN := Lib.hid (fun i (hi : i < a.length) => allIn_getD (isSeq_all hqa) i hi)
      have HT := Lib.hid (fun (k : Int) (h1 : 0 ≤ k) (h2 : k ≤ 3) w' (h : Below w.heap.size w w') => phTurn_any _ b k w' (HVB.out.below h) hqb (by omega) (by omega))
      have HL := Lib.hid (show otL a b = genR a.length (fun i => turnG b (a.getD i 0)) from rfl)
      obtain ⟨L, hL⟩ : ∃ L, L = otL a b := ⟨_, rfl⟩
      rw [← hL] at HL ⊢
      obtain ⟨R, hR⟩ : ∃ R, R = fun i => turnG b (a.getD i 0) := ⟨_, rfl⟩
      rw [← hR] at HL
      have HR := Lib.hid hR
      obtain ⟨n, hn⟩ : ∃ n, n = a.length := ⟨_, rfl⟩
      rw [← hn] at HL HIN HVA hn1 hn8 HSA ⊢
      have HN := Lib.hid hn
      clear ha hb hva hvb hqa hqb hL hn hR
      go_enter Try.func20, Try.ntmps20
      go_wp2_with fail
      refine (HSA.out).mono ?_
      rintro e w1 ⟨rfl, hb⟩
      have HB1 := Lib.hid hb
      clear hb
      go_wp2_with fail
      refine (HSB.out _ HB1.out).mono ?_
      rintro e w2 ⟨rfl, hb⟩
      have HB2 := Lib.hid (joins HB1.out hb)
      clear hb
      go_wp2_with fail
      go_loopw [19, 6] (fun x o wr => ∃ j : Nat, j ≤ n ∧ x = .int .i64 j ∧ OwnR wr w.heap.size o (genR j R) ∧ Below w.heap.size w wr) (fun x _ _ => n - (intOf x).toNat)
      case atStart => exact ⟨0, Nat.zero_le _, rfl, OwnR.nil _ _, HB2.out⟩
      case round =>
        obtain ⟨j, hj, rfl, hown, hbel⟩ := hrel
        have HB := Lib.hid hbel
        have HO := Lib.hid hown
        clear hown hbel
        by_cases hlt : j < n
        · have h0 : (0 : Int) ≤ (j : Int) := by omega
          have h1 : (j : Int) < (n : Int) := by omega
          have hx := HIN.out j hlt
          have hjl : j < a.length := by rw [← HN.out]; exact hlt
          have hts := genR_succ j R
          obtain ⟨x, hxd⟩ : ∃ x, x = a.getD j 0 := ⟨_, rfl⟩
          rcases HVA.out.below HB.out with ⟨h0', _⟩ | ⟨_, b2, off, cap', hveq, _, hc⟩
          · rw [h0'] at hjl; exact absurd hjl (Nat.not_lt_zero _)
          simp only [Value.slice.injEq] at hveq
          obtain ⟨rfl, hnn, rfl⟩ := hveq
          clear hnn
          have c1 := hc j hjl
          clear hc
          have hrj : R j = turnG b x := by rw [HR.out, hxd]
          rw [hrj] at hts
          rw [← hxd] at c1 hx
          have HOW := Lib.hid (HT.out x hx.1 hx.2 _ HB.out)
          have hll : (turnG b x).length = b.length := gen_length _ _
          obtain ⟨l, hl⟩ : ∃ l, l = turnG b x := ⟨_, rfl⟩
          rw [← hl] at hts HOW
          have HTS := Lib.hid hts
          have HGL := Lib.hid (show (genR j R).length ≤ 1048576 by rw [genR_length]; omega)
          clear hl hts hrj hxd hll hjl
          go_wp2_with (first
            | (go_at_call 47; refine (HOW.out).mono ?_; rintro e w2 ⟨r, rfl, hor, hb2⟩; obtain ⟨ra, rc, hre⟩ := hor.is.sl; subst hre; have HOR := Lib.hid hor; have HB2 := Lib.hid hb2; clear hor hb2)
            | (at_builtin; refine wpList_pushR rfl _ _ rfl w.heap.size _ (genR j R) rfl wr HO.out (HB2.out.alloc HB2.out.size _) w2.heap.size 1 _ l rfl (by simp) (HOR.out.alloc _) HGL.out w.heap.size w (belowa (joins HB.out HB2.out) _) (Nat.le_refl _) HB.out.size (by have := HB.out.size; have := HB2.out.size; simp; omega) ?_; intro v3 w3 ho3 hb3))
          go_roundw
          case rel => exact ⟨j + 1, by omega, by go_num, by rw [HTS.out]; assumption, by assumption⟩
          case measure => simp [intOf]; omega
        · obtain rfl : j = n := by omega
          go_wp2_with fail
          go_returns
          refine ⟨_, rfl, ?_, HB.out⟩
          rw [HL.out]
          exact HO.out

set_option maxRecDepth 100000 in
set_option maxHeartbeats 2000000 in
theorem sshiftMatrix (va : Value) (s : List Int) (w : World) (hva : IS w va s) (hla : s.length ≤ 1048576) :
    Calls Try.prog 31 #[va] w (MakesRB w (smA s) (sideS s)) := by
  have HSA := Lib.hid (peSide_any va s w hva hla)
  unfold smA
  have HVA := Lib.hid hva
  obtain ⟨pa, ca, rfl⟩ := hva.sl
  cases ha : sideS s with
  | false =>
    rw [ha] at HSA
    rw [if_neg Bool.false_ne_true]
    clear ha hva HVA
    go_enter Try.func31, Try.ntmps31
    go_wp2_with fail
    refine (HSA.out).mono ?_
    rintro e w1 ⟨rfl, hb⟩
    have HB1 := Lib.hid hb
    clear hb
    go_wp2_with fail
    go_returns
    exact ⟨_, rfl, OwnR.nil _ _, HB1.out⟩
  | true =>
    rw [ha] at HSA
    rw [if_pos rfl]
    obtain ⟨hqa, hn1, hn8⟩ := sideS_parts ha
    have HT := Lib.hid (fun (k : Nat) (h2 : k ≤ 8) w' (h : Below w.heap.size w w') => phShift_any _ s (k : Int) w' (HVA.out.below h) hqa (by omega) (by omega))
    have HL := Lib.hid (show smL s = genR s.length (fun i => shiftG s (i : Int)) from rfl)
    obtain ⟨L, hL⟩ : ∃ L, L = smL s := ⟨_, rfl⟩
    rw [← hL] at HL ⊢
    obtain ⟨R, hR⟩ : ∃ R : Nat → List Int, R = fun (i : Nat) => shiftG s (i : Int) := ⟨_, rfl⟩
    rw [← hR] at HL
    have HR := Lib.hid (fun (j : Nat) => show shiftG s (j : Int) = R j by rw [hR])
    simp only [HR.out] at HT
    obtain ⟨n, hn⟩ : ∃ n, n = s.length := ⟨_, rfl⟩
    rw [← hn] at HL HVA hn1 hn8 HSA HT ⊢
    clear ha hva hqa hL hn hR
    go_enter Try.func31, Try.ntmps31
    go_wp2_with fail
    refine (HSA.out).mono ?_
    rintro e w1 ⟨rfl, hb⟩
    have HB1 := Lib.hid hb
    clear hb
    go_wp2_with fail
    go_loopw [11, 4] (fun x o wr => ∃ j : Nat, j ≤ n ∧ x = .int .i64 j ∧ OwnR wr w.heap.size o (genR j R) ∧ Below w.heap.size w wr) (fun x _ _ => n - (intOf x).toNat)
    case atStart => exact ⟨0, Nat.zero_le _, rfl, OwnR.nil _ _, HB1.out⟩
    case round =>
      obtain ⟨j, hj, rfl, hown, hbel⟩ := hrel
      have HB := Lib.hid hbel
      have HO := Lib.hid hown
      clear hown hbel
      by_cases hlt : j < n
      · have h0 : (0 : Int) ≤ (j : Int) := by omega
        have h1 : (j : Int) < (n : Int) := by omega
        have hts := genR_succ j R
        have HOW := Lib.hid (HT.out j (by omega) _ HB.out)
        obtain ⟨l, hl⟩ : ∃ l, l = R j := ⟨_, rfl⟩
        rw [← hl] at hts HOW
        have HTS := Lib.hid hts
        have HGL := Lib.hid (show (genR j R).length ≤ 1048576 by rw [genR_length]; omega)
        clear hl hts
        go_wp2_with (first
          | (go_at_call 57; refine (HOW.out).mono ?_; rintro e w2 ⟨r, rfl, hor, hb2⟩; obtain ⟨ra, rc, hre⟩ := hor.is.sl; subst hre; have HOR := Lib.hid hor; have HB2 := Lib.hid hb2; clear hor hb2)
          | (at_builtin; refine wpList_pushR rfl _ _ rfl w.heap.size _ (genR j R) rfl wr HO.out (HB2.out.alloc HB2.out.size _) w2.heap.size 1 _ l rfl (by simp) (HOR.out.alloc _) HGL.out w.heap.size w (belowa (joins HB.out HB2.out) _) (Nat.le_refl _) HB.out.size (by have := HB.out.size; have := HB2.out.size; simp; omega) ?_; intro v3 w3 ho3 hb3))
        go_roundw
        case rel => exact ⟨j + 1, by omega, by go_num, by rw [HTS.out]; assumption, by assumption⟩
        case measure => simp [intOf]; omega
      · obtain rfl : j = n := by omega
        go_wp2_with fail
        go_returns
        refine ⟨_, rfl, ?_, HB.out⟩
        rw [HL.out]
        exact HO.out

set_option maxRecDepth 100000 in
set_option maxHeartbeats 2000000 in
theorem pePlace_any (v : Value) (m : List (List Int)) (x y : Int) (w : World) (hv : IR w v m) : Calls Try.prog 37 #[v, .int .i64 x, .int .i64 y] w (Ret w (.bool (plOk m x y))) := by
  have HG := Lib.hid (peArray_any v m w hv)
  have HI := Lib.hid (l1In_any x 0 ((m.length : Int) - 1))
  have HJ := Lib.hid (l1In_any y 0 ((colsOf m : Int) - 1))
  have HV := Lib.hid hv
  obtain ⟨a, cap, rfl⟩ := hv.slice
  unfold plOk
  cases hm : arOk m with
  | false =>
    rw [hm] at HG
    rw [Bool.false_and]
    clear hm hv HV HI HJ
    go_enter Try.func37, Try.ntmps37
    go_wp2_with fail
    refine (HG.out).mono ?_
    rintro e w1 ⟨rfl, hb⟩
    go_wp2_with fail
    go_returns
    exact ⟨rfl, hb⟩
  | true =>
    have hp := arOk_parts hm
    rw [hm] at HG
    rw [Bool.true_and]
    obtain ⟨-, b, off, u0, rfl, hc0, hu0⟩ := HV.out.at 0 (by omega)
    obtain ⟨a0, cap0, rfl⟩ := hu0.sl
    rw [Nat.add_zero, show (m.getD 0 []).length = colsOf m from rfl] at hc0
    obtain ⟨q1, hq1⟩ : ∃ q, q = inB x 0 ((m.length : Int) - 1) := ⟨_, rfl⟩
    obtain ⟨q2, hq2⟩ : ∃ q, q = inB y 0 ((colsOf m : Int) - 1) := ⟨_, rfl⟩
    rw [← hq1] at HI ⊢
    rw [← hq2] at HJ ⊢
    obtain ⟨⟨p1, p2⟩, ⟨p3, p4⟩, -⟩ := hp
    obtain ⟨n, hn⟩ : ∃ n, n = m.length := ⟨_, rfl⟩
    obtain ⟨c, hcd⟩ : ∃ c, c = colsOf m := ⟨_, rfl⟩
    rw [← hn] at HI HG p1 p2 ⊢
    rw [← hcd] at HJ hc0 p3 p4
    have hp0 : (0 : Int) < (n : Int) := by omega
    have HC0 := Lib.hid hc0
    clear hm hv HV hq1 hq2 hn hcd hu0 hc0
    cases q1 with
    | false =>
      rw [Bool.false_and]
      go_enter Try.func37, Try.ntmps37
      go_wp2_with fail
      refine (HG.out).mono ?_
      rintro e w1 ⟨rfl, hb⟩
      have HB := Lib.hid hb
      clear hb
      go_wp2_with fail
      refine (HI.out _).mono ?_
      rintro e w2 ⟨rfl, rfl⟩
      go_wp2_with fail
      go_returns
      exact ⟨rfl, HB.out⟩
    | true =>
      rw [Bool.true_and]
      go_enter Try.func37, Try.ntmps37
      go_wp2_with fail
      refine (HG.out).mono ?_
      rintro e w1 ⟨rfl, hb⟩
      have HB := Lib.hid hb
      have c0 := keepc hb HC0.out
      clear hb
      go_wp2_with fail
      refine (HI.out _).mono ?_
      rintro e w2 ⟨rfl, rfl⟩
      go_wp2_with fail
      refine (HJ.out _).mono ?_
      rintro e w2 ⟨rfl, rfl⟩
      go_wp2_with fail
      go_returns
      exact ⟨rfl, HB.out⟩

set_option maxRecDepth 100000 in
set_option maxHeartbeats 2000000 in
theorem sshiftArray (v : Value) (m : List (List Int)) (x y : Int) (w : World) (hv : IR w v m) : Calls Try.prog 29 #[v, .int .i64 x, .int .i64 y] w (MakesRB w (saA m x y) (plOk m x y)) := by
  have HG := Lib.hid (pePlace_any v m x y w hv)
  have HV := Lib.hid hv
  obtain ⟨a, cap, rfl⟩ := hv.slice
  unfold saA
  cases hm : plOk m x y with
  | false =>
    rw [hm] at HG
    rw [if_neg Bool.false_ne_true]
    clear hm hv HV
    go_enter Try.func29, Try.ntmps29
    go_wp2_with fail
    refine (HG.out).mono ?_
    rintro e w1 ⟨rfl, hb⟩
    have HB1 := Lib.hid hb
    clear hb
    go_wp2_with fail
    go_returns
    exact ⟨_, rfl, OwnR.nil _ _, HB1.out⟩
  | true =>
    rw [hm] at HG
    rw [if_pos rfl]
    obtain ⟨hok, ⟨hx1, hx2⟩, hy1, hy2⟩ := plOk_parts hm
    obtain ⟨⟨p1, p2⟩, ⟨p3, p4⟩, -⟩ := arOk_parts hok
    have HT := Lib.hid (fun (i : Nat) (hi : i < m.length) u w' (h : IS w' u (m.getD i [])) => phShift_any u (m.getD i []) y w' h (arOk_seq hok i hi) (by omega) (by omega))
    obtain ⟨X, rfl⟩ := Int.eq_ofNat_of_zero_le hx1
    have HL := Lib.hid (show saL m (X : Int) y = genR m.length (fun i => shiftG (m.getD ((i + X) % m.length) []) y) from rfl)
    obtain ⟨L, hL⟩ : ∃ L, L = saL m (X : Int) y := ⟨_, rfl⟩
    rw [← hL] at HL ⊢
    obtain ⟨R, hR⟩ : ∃ R : Nat → List Int, R = fun i => shiftG (m.getD ((i + X) % m.length) []) y := ⟨_, rfl⟩
    rw [← hR] at HL
    have HR := Lib.hid (fun j => show R j = shiftG (m.getD ((j + X) % m.length) []) y by rw [hR])
    obtain ⟨n, hn⟩ : ∃ n, n = m.length := ⟨_, rfl⟩
    rw [← hn] at HL p1 p2 HG hx2 HT HR ⊢
    have HN := Lib.hid hn
    clear hm hv hL hn hR hok
    go_enter Try.func29, Try.ntmps29
    go_wp2_with fail
    refine (HG.out).mono ?_
    rintro e w1 ⟨rfl, hb⟩
    have HB1 := Lib.hid hb
    clear hb
    go_wp2_with fail
    go_loopw [17, 8] (fun x o wr => ∃ j : Nat, j ≤ n ∧ x = .int .i64 j ∧ OwnR wr w.heap.size o (genR j R) ∧ Below w.heap.size w wr) (fun x _ _ => n - (intOf x).toNat)
    case atStart => exact ⟨0, Nat.zero_le _, rfl, OwnR.nil _ _, HB1.out⟩
    case round =>
      obtain ⟨j, hj, rfl, hown, hbel⟩ := hrel
      have HB := Lib.hid hbel
      have HO := Lib.hid hown
      clear hown hbel
      by_cases hlt : j < n
      · have h0 : (0 : Int) ≤ (j : Int) := by omega
        have h1 : (j : Int) < (n : Int) := by omega
        have hts := genR_succ j R
        have hPn : (j + X) % n < n := Nat.mod_lt _ (by omega)
        have hr := HR.out j
        obtain ⟨-, b, off, u, rfl, hc, hu⟩ := (HV.out.below HB.out).at ((j + X) % n) (by rw [← HN.out]; exact hPn)
        have HOW := Lib.hid (HT.out _ hPn _ _ hu)
        obtain ⟨ua, uc, rfl⟩ := hu.sl
        rw [← hr] at HOW
        obtain ⟨l, hl⟩ : ∃ l, l = R j := ⟨_, rfl⟩
        rw [← hl] at hts HOW
        obtain ⟨k0, hk0⟩ : ∃ k0, k0 = (m.getD ((j + X) % n) []).length := ⟨_, rfl⟩
        rw [← hk0] at hc HOW
        have HTS := Lib.hid hts
        have HGL := Lib.hid (show (genR j R).length ≤ 1048576 by rw [genR_length]; omega)
        have hp0 : (0 : Int) ≤ ((j : Int) + (X : Int)) % (n : Int) := Int.emod_nonneg _ (by omega)
        have hp1 : ((j : Int) + (X : Int)) % (n : Int) < (n : Int) := Int.emod_lt_of_pos _ (by omega)
        clear hl hts hu hr hk0 hPn
        go_wp2_with (first
          | (go_at_call 57; refine (HOW.out).mono ?_; rintro e w2 ⟨r, rfl, hor, hb2⟩; obtain ⟨ra, rc, hre⟩ := hor.is.sl; subst hre; have HOR := Lib.hid hor; have HB2 := Lib.hid hb2; clear hor hb2)
          | (at_builtin; refine wpList_pushR rfl _ _ rfl w.heap.size _ (genR j R) rfl wr HO.out (HB2.out.alloc HB2.out.size _) w2.heap.size 1 _ l rfl (by simp) (HOR.out.alloc _) HGL.out w.heap.size w (belowa (joins HB.out HB2.out) _) (Nat.le_refl _) HB.out.size (by have := HB.out.size; have := HB2.out.size; simp; omega) ?_; intro v3 w3 ho3 hb3))
        go_roundw
        case rel => exact ⟨j + 1, by omega, by go_num, by rw [HTS.out]; assumption, by assumption⟩
        case measure => simp [intOf]; omega
      · obtain rfl : j = n := by omega
        go_wp2_with fail
        go_returns
        refine ⟨_, rfl, ?_, HB.out⟩
        rw [HL.out]
        exact HO.out
end Go.Proofs.Ytjoepdflbbcliab
