/- The program's TransformOfSequence and IsFlat. -/
import Derived.Test.YtgibdndckoapfaaITt
import Derived.Test.YtgibdndckoapfaaQsM
import Derived.Test.YtgibdndckoapfaaSCr
namespace Go.Proofs.Ytgibdndckoapfaa
set_option maxRecDepth 100000
open Go.RowKit

theorem FK_negF {b : Nat} {x : Int} (h : FK .f32 b x) : FK .f32 (f32neg b) (-x) := by
  obtain ⟨s, m, k, h1, h2⟩ := h
  refine ⟨!s, m, k, ?_, h2.neg⟩
  have hs : FloatKind.f32.format.signWeight = 2 ^ 31 := by decide
  have e1 : f32neg b / 2 ^ 31 % 2 = 1 - b / 2 ^ 31 % 2 := by
    unfold f32neg
    rw [show (2147483648 : Nat) = 2 ^ 31 from rfl, Nat.xor_div_two_pow, Nat.div_self (by decide)]
    have h := @Nat.xor_mod_two_pow (b / 2 ^ 31) 1 1
    rw [show (2 : Nat) ^ 1 = 2 from rfl] at h
    rw [h]
    have h2 : b / 2 ^ 31 % 2 = 0 ∨ b / 2 ^ 31 % 2 = 1 := by omega
    rcases h2 with e | e <;> rw [e] <;> rfl
  have e2 : f32neg b % 2 ^ 31 = b % 2 ^ 31 := by
    unfold f32neg
    rw [show (2147483648 : Nat) = 2 ^ 31 from rfl, Nat.xor_mod_two_pow, Nat.mod_self, Nat.xor_zero]
  have key : FloatKind.f32.format.read (f32neg b) = (FloatKind.f32.format.read b).opposite := by
    have h2 : b / 2 ^ 31 % 2 = 0 ∨ b / 2 ^ 31 % 2 = 1 := by omega
    unfold Ieee.Format.read
    simp only [hs, e1, e2]
    rcases h2 with e | e
    · simp only [e]
      split
      · rfl
      · split
        · rfl
        · split <;> rfl
    · simp only [e]
      split
      · rfl
      · split
        · rfl
        · split <;> rfl
  rw [key, h1]
  rfl
def phC2 (s : List Int) : Nat → Nat × Nat := fun i => (f32of (vx (s.getD i 0)), f32of (vy (s.getD i 0)))
set_option maxRecDepth 100000 in
set_option maxHeartbeats 2000000 in
theorem signalOfPhases_any (v : Value) (s : List Int) (w : World) (hv : IS w v s) (hl : s.length ≤ 1048576) : Calls Try.prog 59 #[v] w (MakesC w s.length (phC2 s) (sqTf s)) := by
  obtain ⟨i0, hi, hz0, hz1, hz2⟩ := info_parts infoC
  have HF := Lib.hid (fits_conj (s.length : Int))
  rw [tfZ_nat] at HF
  have HI := Lib.hid (isSequence_any v s w hv hl)
  have hsq : sqTf s = (isSeq s && tfSz s.length) := rfl
  have hall := fun (h : isSeq s = true) i hi => allIn_getD (isSeq_all h) i hi
  obtain ⟨a, cap, rfl⟩ := hv.slice
  cases hz : tfSz s.length with
  | false =>
    rw [hz] at HF hsq
    rw [Bool.and_false] at hsq
    rw [hsq]
    obtain ⟨n, hn⟩ : ∃ n, n = s.length := ⟨_, rfl⟩
    rw [← hn] at HF ⊢
    clear HI hv hl hsq hz hn hall
    go_enter Try.func59, Try.ntmps59
    go_wp2_with fail
    refine (HF.out _).mono ?_
    rintro e w1 ⟨rfl, rfl⟩
    go_wp2_with fail
    go_returns
    exact ⟨Below.refl _ _, Or.inr ⟨rfl, rfl⟩⟩
  | true =>
    rw [hz] at HF hsq
    rw [Bool.and_true] at hsq
    rw [hsq]
    have hlen := tfSz_cases hz
    cases hq : isSeq s with
    | false =>
      rw [hq] at HI
      obtain ⟨n, hn⟩ : ∃ n, n = s.length := ⟨_, rfl⟩
      rw [← hn] at HF HI ⊢
      clear hv hl hsq hz hn hall hq hlen
      go_enter Try.func59, Try.ntmps59
      go_wp2_with fail
      refine (HF.out _).mono ?_
      rintro e w1 ⟨rfl, rfl⟩
      go_wp2_with fail
      refine (HI.out).mono ?_
      rintro e w2 ⟨rfl, hb⟩
      have HB := Lib.hid hb
      clear hb
      go_wp2_with fail
      go_returns
      exact ⟨HB.out, Or.inr ⟨rfl, rfl⟩⟩
    | true =>
      rw [hq] at HI
      have hall := hall hq
      obtain ⟨b, off, rfl, hc⟩ := hv.cellsAt (by omega)
      have HXY := Lib.hid (show ∀ i, phC2 s i = (f32of (vx (s.getD i 0)), f32of (vy (s.getD i 0))) from fun _ => rfl)
      obtain ⟨D, hD⟩ : ∃ D, D = phC2 s := ⟨_, rfl⟩
      rw [← hD] at HXY ⊢
      obtain ⟨n, hn⟩ : ∃ n, n = s.length := ⟨_, rfl⟩
      rw [← hn] at HF HI hall hc hlen ⊢
      have HC := Lib.hid hc
      have HA := Lib.hid hall
      clear hv hl hsq hz hn hall hq hD hc
      go_enter Try.func59, Try.ntmps59
      go_wp2_with fail
      refine (HF.out _).mono ?_
      rintro e w1 ⟨rfl, rfl⟩
      go_wp2_with fail
      refine (HI.out).mono ?_
      rintro e w2 ⟨rfl, hb⟩
      have HB2 := Lib.hid hb
      clear hb
      go_wp2_with (at_make; refine wpList_make_full _ rfl _ _ 58 rfl w2.heap.size 76 i0 (.complex .f32 0 0) 1 Try.underlying58 hi hz0 hz1 _ _ _ _ n rfl rfl rfl rfl ?b2 ?b3 (Nat.le_refl _) ?_)
      case b2 => rw [hz2]; omega
      case b3 => unfold maxLen; omega
      intro w0 hown0 hgrow0
      have hrow0 : RowC w0 w2.heap.size w2.heap.size n (upC 0 D) := by
        unfold RowC
        rw [upC_zero, ← cx_zeros]
        simpa using hown0
      have hb0 : Below w2.heap.size w2 w0 := (Below.refl _ _).grown hgrow0 (Nat.le_refl _) (fun k h => by cases h)
      have HB0 := Lib.hid (joins HB2.out hb0)
      have HR0 := Lib.hid hrow0
      have HLE := Lib.hid HB2.out.size
      clear hown0 hgrow0 hrow0 hb0
      go_wp2_with fail
      go_loopw [21] (fun i wr => ∃ k : Nat, k ≤ n ∧ i = .int .i64 k ∧ RowC wr w2.heap.size w2.heap.size n (upC k D) ∧ Below w.heap.size w wr) (fun i _ => n - (intOf i).toNat)
      case atStart => exact ⟨0, Nat.zero_le _, rfl, HR0.out, HB0.out⟩
      case round =>
        obtain ⟨k, hk, rfl, hrow, hbel⟩ := hrel
        have HB := Lib.hid hbel
        have HR := Lib.hid hrow
        clear hbel hrow
        by_cases hlt : k < n
        · have c1 := keepc HB.out (HC.out k hlt)
          have h0 : (0 : Int) ≤ (k : Int) := by omega
          have h1 : (k : Int) < (n : Int) := by omega
          have hp := HA.out k hlt
          have hxy := HXY.out k
          obtain ⟨z, hz⟩ : ∃ z, z = s.getD k 0 := ⟨_, rfl⟩
          rw [← hz] at c1 hp hxy
          have HV := Lib.hid (valueOf_any z hp.1 hp.2)
          obtain ⟨b1, hb1⟩ : ∃ b, b = f32of (vx z) := ⟨_, rfl⟩
          obtain ⟨b2, hb2⟩ : ∃ b, b = f32of (vy z) := ⟨_, rfl⟩
          rw [← hb1, ← hb2] at HV hxy
          have HDK := Lib.hid hxy
          clear hp hxy hz hb1 hb2
          go_wp2_with fail
          refine (HV.out _).mono ?_
          rintro e w3 ⟨rfl, hb⟩
          have HB3 := Lib.hid (joins HB.out hb)
          have hR3 := HR.out.below hb
          have HR3 := Lib.hid hR3
          have d1 := hR3.cell k hlt
          rw [show upC k D k = (0, 0) from if_neg (Nat.lt_irrefl _)] at d1
          have f1 := World.ownsRow.frozenAt hR3 k
          have hst := @store_complex Try.prog
          clear hb hR3 c1
          go_wp2_with fail
          go_roundw
          case rel =>
            have hs := HR3.out.set k (D k)
            rw [upC_set] at hs
            rw [HDK.out] at hs
            exact ⟨k + 1, by omega, by go_num, hs, belows HB3.out HLE.out _⟩
          case measure => simp [intOf]; omega
        · obtain rfl : k = n := by omega
          go_wp2_with fail
          go_returns
          refine ⟨HB.out, Or.inl ⟨rfl, w2.heap.size, rfl, ?_⟩⟩
          have := HR.out.mono HLE.out
          unfold RowC at this
          rw [upC_all] at this
          exact this
theorem phC2_ok {s : List Int} (h : sqTf s = true) : ∀ i, i < s.length → FK .f32 (phC2 s i).1 (gre (vlL s) i) ∧ FK .f32 (phC2 s i).2 (gim (vlL s) i) := fun i hi => by
  have hp := allIn_getD (isSeq_all (Bool.and_eq_true_iff.1 h).1) i hi
  have e1 : gre (vlL s) i = vx (s.getD i 0) := genG_re _ _ _ i hi
  have e2 : gim (vlL s) i = vy (s.getD i 0) := genG_im _ _ _ i hi
  rw [e1, e2]
  exact FK_unit _ hp.1 hp.2
/-- The transform of a sequence's values, as the program has it. -/
theorem seqTransform_any (s : List Int) (h : sqTf s = true) (g B : Nat) (w : World) (hr : RowC w B g s.length (phC2 s)) :
    Calls Try.prog 60 #[.int .i64 3, .slice (some ⟨g, 0, none⟩) s.length s.length] w (Leaves w s.length (fun p => (drX 1 (vlL s) s.length p, drY 1 (vlL s) s.length p))) := by
  have hz := (Bool.and_eq_true_iff.1 h).2
  have hl := sqTf_len h
  have hup : upTo (fun i => (gre (vlL s) i, gim (vlL s) i)) s.length 1000000 := fun i hi => vlL_le' s i (by rw [vlL_len]; exact hi)
  have ht := transform_any 3 s.length (dgW s.length) g B (phC2 s) (fun i => (gre (vlL s) i, gim (vlL s) i)) (by omega) (dg_pow hz) (by omega) hup w hr (phC2_ok h)
  refine ht.mono ?_
  rintro e w' ⟨g2, E, rfl, h1, h2, h3⟩
  refine ⟨g2, E, rfl, h1, fun i hi => ?_, h3⟩
  have e := tr_dr 3 1 (Or.inl ⟨rfl, rfl⟩) (vlL s) (by rw [vlL_len]; exact hz) i (by rw [vlL_len]; exact hi)
  rw [vlL_len] at e
  have h4 := h2 i hi
  rw [show trF 3 (baW 3) (dgW s.length) (fun i => (gre (vlL s) i, gim (vlL s) i)) i = _ from e] at h4
  exact h4
set_option maxRecDepth 100000 in
set_option maxHeartbeats 1000000 in
theorem itransformOfSequence (v : Value) (s : List Int) (w : World) (hv : IS w v s) (hl : s.length ≤ 1048576) : Calls Try.prog 29 #[v] w (MakesGB w (tqA s) (sqTf s)) := by
  have HS := Lib.hid (signalOfPhases_any v s w hv hl)
  unfold tqA
  cases h : sqTf s with
  | false =>
    rw [h] at HS
    rw [if_neg Bool.false_ne_true]
    clear h hv hl
    go_enter Try.func29, Try.ntmps29
    go_wp2_with fail
    refine (HS.out).mono ?_
    rintro e w1 ⟨hb, ⟨h, _⟩ | ⟨_, rfl⟩⟩
    · cases h
    have HB := Lib.hid hb
    clear hb
    go_wp2_with fail
    go_returns
    exact ⟨_, rfl, OwnG.nil _ _, HB.out⟩
  | true =>
    rw [h] at HS
    rw [if_pos rfl]
    have hlen := sqTf_len h
    have hg := tq_good h
    have HT := Lib.hid (fun g B w' hr => seqTransform_any s h g B w' hr)
    have hdl : drL 1 (vlL s) = genG s.length (drX 1 (vlL s) s.length) (drY 1 (vlL s) s.length) := by unfold drL; rw [vlL_len]
    have HLI := Lib.hid (fun (g B : Nat) E (w' : World) (h : ∀ i, i < s.length → FA (E i).1 (drX 1 (vlL s) s.length i) ∧ FA (E i).2 (drY 1 (vlL s) s.length i)) (hr : RowC w' B g s.length E) => list_FA g s.length B E (fun p => (drX 1 (vlL s) s.length p, drY 1 (vlL s) s.length p)) h hlen.1 (by omega) w' hr)
    dsimp only at HLI
    rw [show genG s.length (fun i => drX 1 (vlL s) s.length i) (fun i => drY 1 (vlL s) s.length i) = drL 1 (vlL s) from hdl.symm, hg, if_pos rfl] at HLI
    obtain ⟨L, hL⟩ : ∃ L, L = drL 1 (vlL s) := ⟨_, rfl⟩
    rw [← hL] at HLI ⊢
    obtain ⟨X, hX⟩ : ∃ X, X = drX 1 (vlL s) s.length := ⟨_, rfl⟩
    obtain ⟨Y, hY⟩ : ∃ X, X = drY 1 (vlL s) s.length := ⟨_, rfl⟩
    rw [← hX, ← hY] at HT HLI
    obtain ⟨D, hD⟩ : ∃ D, D = phC2 s := ⟨_, rfl⟩
    rw [← hD] at HS HT
    obtain ⟨n, hn⟩ : ∃ n, n = s.length := ⟨_, rfl⟩
    rw [← hn] at HS HT HLI
    clear h hv hl hlen hg hdl hL hX hY hD hn
    go_enter Try.func29, Try.ntmps29
    go_wp2_with fail
    refine (HS.out).mono ?_
    rintro e w1 ⟨hb, ⟨_, g, rfl, hr⟩ | ⟨h, _⟩⟩
    case inr => cases h
    have HB1 := Lib.hid hb
    have HR1 := Lib.hid hr
    clear hb hr
    go_wp2_with fail
    refine (HT.out _ _ _ HR1.out).mono ?_
    rintro e w2 ⟨g2, E2, rfl, hr2, hf2, hb2⟩
    have HB2 := Lib.hid (joins HB1.out hb2)
    have HR2 := Lib.hid hr2
    have HF2 := Lib.hid hf2
    clear hb2 hr2 hf2
    go_wp2_with fail
    refine (HLI.out _ _ _ _ HF2.out HR2.out).mono ?_
    rintro e w3 ⟨v3, rfl, ho3, hb3⟩
    have HB3 := Lib.hid (joins HB2.out hb3)
    have HO3 := Lib.hid (ho3.mono HB2.out.size)
    clear ho3 hb3
    go_wp2_with fail
    go_returns
    exact ⟨_, rfl, HO3.out, HB3.out⟩
set_option maxHeartbeats 1000000 in
theorem normOfSum_FK (b1 b2 : Nat) (x y : Int) (h1 : FK .f32 b1 x) (h2 : FK .f32 b2 y) (hx : -16 ≤ x ∧ x ≤ 16) (hy : -16 ≤ y ∧ y ≤ 16) (w : World) : Calls Try.prog 83 #[.complex .f32 b1 b2] w (Pure w (.int .i64 (norm x y))) := by
  have hns := norm_small hx hy
  have en : x * x - y * -y = norm x y := by unfold norm; rw [Int.mul_neg]; omega
  have e0 : x * -y + y * x = 0 := by rw [Int.mul_neg, Int.mul_comm y x]; omega
  have sq : ∀ z : Int, -16 ≤ z ∧ z ≤ 16 → (z * z).natAbs ≤ 256 := fun z hz => by
    rw [Int.natAbs_mul]; exact Nat.mul_le_mul (show z.natAbs ≤ 16 by omega) (show z.natAbs ≤ 16 by omega)
  have pq : ∀ z t : Int, -16 ≤ z ∧ z ≤ 16 → -16 ≤ t ∧ t ≤ 16 → (z * t).natAbs ≤ 256 := fun z t hz ht => by
    rw [Int.natAbs_mul]; exact Nat.mul_le_mul (show z.natAbs ≤ 16 by omega) (show t.natAbs ≤ 16 by omega)
  have q1 := sq x hx
  have q2 := pq y (-y) hy (by omega)
  have q3 := pq x (-y) hx (by omega)
  have q4 := pq y x hy hx
  obtain ⟨re, im, hm, hr, -⟩ := FC_mul32 h1 h2 h1 (FK_negF h2) (by omega) (by omega) (by omega) (by omega) (by omega) (by omega) (by omega) (by omega) (by rw [en]; omega) (by rw [e0]; decide)
  rw [en] at hr
  have hmul := fun w t => run_complex_mul32 (P := Try.prog) w t _ _ _ _ _ _ hm
  have hcv := fun w => run_convert_float_int (P := Try.prog) w 87 3 .f32 .i64 re (norm x y) rfl Try.underlying3 (FN_toInt hr (by omega))
  obtain ⟨N, hN⟩ : ∃ N, N = norm x y := ⟨_, rfl⟩
  rw [← hN] at hcv ⊢
  have HC := Lib.hid (conjugateValue_any b1 b2)
  obtain ⟨fc, hfc⟩ : ∃ fc, fc = f32neg b2 := ⟨_, rfl⟩
  rw [← hfc] at hmul HC
  clear hN hfc hm hr h1 h2 hx hy hns en e0 sq pq q1 q2 q3 q4
  go_enter Try.func83, Try.ntmps83
  go_wp2_with fail
  refine (HC.out _).mono ?_
  rintro e w1 ⟨rfl, rfl⟩
  go_wp2_with fail
  go_returns
  exact ⟨rfl, rfl⟩
set_option maxRecDepth 100000 in
set_option maxHeartbeats 2000000 in
theorem isFlat_any (s : List Int) (h : sqTf s = true) (g B : Nat) (w : World) (hr : RowC w B g s.length (phC2 s)) :
    Calls Try.prog 62 #[.slice (some ⟨g, 0, none⟩) s.length s.length] w (Ret w (.bool (flB s))) := by
  have HT := Lib.hid (seqTransform_any s h g B w hr)
  have HTL := Lib.hid (fun p => tq_le h p)
  have HFA := Lib.hid (show ∀ p, flAt s p = decide (norm (drX 1 (vlL s) s.length p) (drY 1 (vlL s) s.length p) = (s.length : Int)) from fun p => rfl)
  have HFS := Lib.hid (fun k => flTo_succ s k)
  have HFN := Lib.hid (fun k hk hh => @fl_no s k hk hh)
  have HFB := Lib.hid (show flB s = flTo s s.length from rfl)
  have hlen := sqTf_len h
  obtain ⟨X, hX⟩ : ∃ X, X = drX 1 (vlL s) s.length := ⟨_, rfl⟩
  obtain ⟨Y, hY⟩ : ∃ X, X = drY 1 (vlL s) s.length := ⟨_, rfl⟩
  rw [← hX, ← hY] at HT HTL HFA
  obtain ⟨n, hn⟩ : ∃ n, n = s.length := ⟨_, rfl⟩
  rw [← hn] at HT HFA HFN HFB hlen ⊢
  obtain ⟨q, hq⟩ : ∃ q, q = flB s := ⟨_, rfl⟩
  rw [← hq]
  have HQ := Lib.hid hq
  obtain ⟨hl1, hl2⟩ := hlen
  clear hr h hX hY hn hq
  go_enter Try.func62, Try.ntmps62
  go_wp2_with fail
  refine (HT.out).mono ?_
  rintro e w1 ⟨g2, E, rfl, hr, hf, hb⟩
  have HB1 := Lib.hid hb
  have HR := Lib.hid hr
  have HF := Lib.hid hf
  clear hr hf hb
  go_wp2_with fail
  go_loopw [8] (fun i wr => ∃ k : Nat, k ≤ n ∧ i = .int .i64 k ∧ flTo s k = true ∧ Below w1.heap.size w1 wr) (fun i _ => n - (intOf i).toNat)
  case atStart => exact ⟨0, Nat.zero_le _, rfl, rfl, Below.refl _ _⟩
  case round =>
    obtain ⟨k, hk, rfl, hall, hbel⟩ := hrel
    have HA := Lib.hid hall
    have HB := Lib.hid hbel
    clear hall hbel
    by_cases hlt : k < n
    · have h0 : (0 : Int) ≤ (k : Int) := by omega
      have h1 : (k : Int) < (n : Int) := by omega
      have c1 := (HR.out.below HB.out).cell k hlt
      have hle := HTL.out k
      have hfa := HFA.out k
      have hf := HF.out k hlt
      have HN := Lib.hid (normOfSum_FK (E k).1 (E k).2 (X k) (Y k) (hf.1.1 (by show (X k).natAbs < _; omega)) (hf.2.1 (by show (Y k).natAbs < _; omega)) hle.1 hle.2)
      obtain ⟨p1, hp1⟩ : ∃ p, p = (E k).1 := ⟨_, rfl⟩
      obtain ⟨p2, hp2⟩ : ∃ p, p = (E k).2 := ⟨_, rfl⟩
      rw [← hp1, ← hp2] at c1 HN
      obtain ⟨m, hm⟩ : ∃ m, m = norm (X k) (Y k) := ⟨_, rfl⟩
      rw [← hm] at hfa HN
      clear hle hf hp1 hp2 hm
      by_cases he : m = (n : Int)
      · rw [decide_eq_true he] at hfa
        have HNX := Lib.hid (show flTo s (k + 1) = true by rw [HFS.out, HA.out, hfa]; rfl)
        subst he
        clear hfa
        go_wp2_with fail
        refine (HN.out _).mono ?_
        rintro e w3 ⟨rfl, rfl⟩
        go_wp2_with fail
        go_roundw
        case rel => exact ⟨k + 1, by omega, by go_num, HNX.out, HB.out⟩
        case measure => simp [intOf]; omega
      · rw [decide_eq_false he] at hfa
        have HNX := Lib.hid (HFN.out k hlt hfa)
        have hne : (m == (n : Int)) = false := by simpa using he
        clear hfa he
        go_wp2_with fail
        refine (HN.out _).mono ?_
        rintro e w3 ⟨rfl, rfl⟩
        go_wp2_with fail
        go_returns
        exact ⟨ret_bool (by rw [HQ.out, HNX.out]), joins HB1.out HB.out⟩
    · obtain rfl : k = n := by omega
      go_wp2_with fail
      go_returns
      exact ⟨ret_bool (by rw [HQ.out, HFB.out, HA.out]), joins HB1.out HB.out⟩
set_option maxRecDepth 100000 in
set_option maxHeartbeats 1000000 in
theorem iisFlat (v : Value) (s : List Int) (w : World) (hv : IS w v s) (hl : s.length ≤ 1048576) : Calls Try.prog 33 #[v] w (Ret w (.tuple #[.bool (sqTf s && flB s), .bool (sqTf s)])) := by
  have HS := Lib.hid (signalOfPhases_any v s w hv hl)
  cases h : sqTf s with
  | false =>
    rw [h] at HS
    clear h hv hl
    go_enter Try.func33, Try.ntmps33
    go_wp2_with fail
    refine (HS.out).mono ?_
    rintro e w1 ⟨hb, ⟨h, _⟩ | ⟨_, rfl⟩⟩
    · cases h
    have HB := Lib.hid hb
    clear hb
    go_wp2_with fail
    go_returns
    exact ⟨rfl, HB.out⟩
  | true =>
    rw [h] at HS
    have HF := Lib.hid (fun g B w' hr => isFlat_any s h g B w' hr)
    obtain ⟨q, hq⟩ : ∃ q, q = flB s := ⟨_, rfl⟩
    rw [← hq] at HF ⊢
    obtain ⟨D, hD⟩ : ∃ D, D = phC2 s := ⟨_, rfl⟩
    rw [← hD] at HS HF
    obtain ⟨n, hn⟩ : ∃ n, n = s.length := ⟨_, rfl⟩
    rw [← hn] at HS HF
    clear h hv hl hq hD hn
    go_enter Try.func33, Try.ntmps33
    go_wp2_with fail
    refine (HS.out).mono ?_
    rintro e w1 ⟨hb, ⟨_, g, rfl, hr⟩ | ⟨h, _⟩⟩
    case inr => cases h
    have HB1 := Lib.hid hb
    have HR1 := Lib.hid hr
    clear hb hr
    go_wp2_with fail
    refine (HF.out _ _ _ HR1.out).mono ?_
    rintro e w2 ⟨rfl, hb⟩
    have HB2 := Lib.hid (joins HB1.out hb)
    clear hb
    go_wp2_with fail
    go_returns
    exact ⟨rfl, HB2.out⟩
end Go.Proofs.Ytgibdndckoapfaa
