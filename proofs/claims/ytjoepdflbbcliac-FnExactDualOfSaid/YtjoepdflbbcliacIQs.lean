/- The program's TransformOfSequence and IsFlat. -/
import Derived.Test.YtjoepdflbbcliacITt
import Derived.Test.YtjoepdflbbcliacQsM
import Derived.Test.YtjoepdflbbcliacSCr
namespace Go.Proofs.Ytjoepdflbbcliac
set_option maxRecDepth 100000
open Go.RowKit

theorem FK_negF {b : Nat} {x : Int} (h : FK .f32 b x) : FK .f32 (f32neg b) (-x) := by
  obtain ⟨s, m, k, h1, h2⟩ := h
  refine ⟨!s, m, k, ?_, h2.neg⟩
  have hs : FloatKind.f32.format.signWeight = 2 ^ 31 := by decide
  have e1 : f32neg b / 2 ^ 31 % 2 = 1 - b / 2 ^ 31 % 2 := by
    unfold f32neg
    rw [show (2147483648 : Nat) = 2 ^ 31 from rfl, Nat.xor_div_two_pow, Nat.div_self (by decide)]
    have h := @Nat.xor_mod_two_pow (b / 2 ^ 31) 1 1
    rw [show (2 : Nat) ^ 1 = 2 from rfl] at h
    rw [h]
    have h2 : b / 2 ^ 31 % 2 = 0 ∨ b / 2 ^ 31 % 2 = 1 := by omega
    rcases h2 with e | e <;> rw [e] <;> rfl
  have e2 : f32neg b % 2 ^ 31 = b % 2 ^ 31 := by
    unfold f32neg
    rw [show (2147483648 : Nat) = 2 ^ 31 from rfl, Nat.xor_mod_two_pow, Nat.mod_self, Nat.xor_zero]
  have key : FloatKind.f32.format.read (f32neg b) = (FloatKind.f32.format.read b).opposite := by
    have h2 : b / 2 ^ 31 % 2 = 0 ∨ b / 2 ^ 31 % 2 = 1 := by omega
    unfold Ieee.Format.read
    simp only [hs, e1, e2]
    rcases h2 with e | e
    · simp only [e]
      split
      · rfl
      · split
        · rfl
        · split <;> rfl
    · simp only [e]
      split
      · rfl
      · split
        · rfl
        · split <;> rfl
  rw [key, h1]
  rfl
def phC2 (s : List Int) : Nat → Nat × Nat := fun i => (f32of (vx (s.getD i 0)), f32of (vy (s.getD i 0)))
set_option maxRecDepth 100000 in
set_option maxHeartbeats 2000000 in
theorem signalOfPhases_any (v : Value) (s : List Int) (w : World) (hv : IS w v s) (hl : s.length ≤ 1048576) : Calls Try.prog 42 #[v] w (MakesC w s.length (phC2 s) (sqTf s)) := by
  obtain ⟨i0, hi, hz0, hz1, hz2⟩ := info_parts infoC
  have HF := Lib.hid (fits_conj (s.length : Int))
  rw [tfZ_nat] at HF
  have HI := Lib.hid (isSequence_any v s w hv hl)
  have hsq : sqTf s = (isSeq s && tfSz s.length) := rfl
  have hall := fun (h : isSeq s = true) i hi => allIn_getD (isSeq_all h) i hi
  obtain ⟨a, cap, rfl⟩ := hv.slice
  cases hz : tfSz s.length with
  | false =>
    rw [hz] at HF hsq
    rw [Bool.and_false] at hsq
    rw [hsq]
    obtain ⟨n, hn⟩ : ∃ n, n = s.length := ⟨_, rfl⟩
    rw [← hn] at HF ⊢
    clear HI hv hl hsq hz hn hall
    go_enter Try.func42, Try.ntmps42
    go_wp2_with fail
    refine (HF.out _).mono ?_
    rintro e w1 ⟨rfl, rfl⟩
    go_wp2_with fail
    go_returns
    exact ⟨Below.refl _ _, Or.inr ⟨rfl, rfl⟩⟩
  | true =>
    rw [hz] at HF hsq
    rw [Bool.and_true] at hsq
    rw [hsq]
    have hlen := tfSz_cases hz
    cases hq : isSeq s with
    | false =>
      rw [hq] at HI
      obtain ⟨n, hn⟩ : ∃ n, n = s.length := ⟨_, rfl⟩
      rw [← hn] at HF HI ⊢
      clear hv hl hsq hz hn hall hq hlen
      go_enter Try.func42, Try.ntmps42
      go_wp2_with fail
      refine (HF.out _).mono ?_
      rintro e w1 ⟨rfl, rfl⟩
      go_wp2_with fail
      refine (HI.out).mono ?_
      rintro e w2 ⟨rfl, hb⟩
      have HB := Lib.hid hb
      clear hb
      go_wp2_with fail
      go_returns
      exact ⟨HB.out, Or.inr ⟨rfl, rfl⟩⟩
    | true =>
      rw [hq] at HI
      have hall := hall hq
      obtain ⟨b, off, rfl, hc⟩ := hv.cellsAt (by omega)
      have HXY := Lib.hid (show ∀ i, phC2 s i = (f32of (vx (s.getD i 0)), f32of (vy (s.getD i 0))) from fun _ => rfl)
      obtain ⟨D, hD⟩ : ∃ D, D = phC2 s := ⟨_, rfl⟩
      rw [← hD] at HXY ⊢
      obtain ⟨n, hn⟩ : ∃ n, n = s.length := ⟨_, rfl⟩
      rw [← hn] at HF HI hall hc hlen ⊢
      have HC := Lib.hid hc
      have HA := Lib.hid hall
      clear hv hl hsq hz hn hall hq hD hc
      go_enter Try.func42, Try.ntmps42
      go_wp2_with fail
      refine (HF.out _).mono ?_
      rintro e w1 ⟨rfl, rfl⟩
      go_wp2_with fail
      refine (HI.out).mono ?_
      rintro e w2 ⟨rfl, hb⟩
      have HB2 := Lib.hid hb
      clear hb
      go_wp2_with (at_make; refine wpList_make_full _ rfl _ _ 56 rfl w2.heap.size 63 i0 (.complex .f32 0 0) 1 Try.underlying56 hi hz0 hz1 _ _ _ _ n rfl rfl rfl rfl ?b2 ?b3 (Nat.le_refl _) ?_)
      case b2 => rw [hz2]; omega
      case b3 => unfold maxLen; omega
      intro w0 hown0 hgrow0
      have hrow0 : RowC w0 w2.heap.size w2.heap.size n (upC 0 D) := by
        unfold RowC
        rw [upC_zero, ← cx_zeros]
        simpa using hown0
      have hb0 : Below w2.heap.size w2 w0 := (Below.refl _ _).grown hgrow0 (Nat.le_refl _) (fun k h => by cases h)
      have HB0 := Lib.hid (joins HB2.out hb0)
      have HR0 := Lib.hid hrow0
      have HLE := Lib.hid HB2.out.size
      clear hown0 hgrow0 hrow0 hb0
      go_wp2_with fail
      go_loopw [21] (fun i wr => ∃ k : Nat, k ≤ n ∧ i = .int .i64 k ∧ RowC wr w2.heap.size w2.heap.size n (upC k D) ∧ Below w.heap.size w wr) (fun i _ => n - (intOf i).toNat)
      case atStart => exact ⟨0, Nat.zero_le _, rfl, HR0.out, HB0.out⟩
      case round =>
        obtain ⟨k, hk, rfl, hrow, hbel⟩ := hrel
        have HB := Lib.hid hbel
        have HR := Lib.hid hrow
        clear hbel hrow
        by_cases hlt : k < n
        · have c1 := keepc HB.out (HC.out k hlt)
          have h0 : (0 : Int) ≤ (k : Int) := by omega
          have h1 : (k : Int) < (n : Int) := by omega
          have hp := HA.out k hlt
          have hxy := HXY.out k
          obtain ⟨z, hz⟩ : ∃ z, z = s.getD k 0 := ⟨_, rfl⟩
          rw [← hz] at c1 hp hxy
          have HV := Lib.hid (valueOf_any z hp.1 hp.2)
          obtain ⟨b1, hb1⟩ : ∃ b, b = f32of (vx z) := ⟨_, rfl⟩
          obtain ⟨b2, hb2⟩ : ∃ b, b = f32of (vy z) := ⟨_, rfl⟩
          rw [← hb1, ← hb2] at HV hxy
          have HDK := Lib.hid hxy
          clear hp hxy hz hb1 hb2
          go_wp2_with fail
          refine (HV.out _).mono ?_
          rintro e w3 ⟨rfl, hb⟩
          have HB3 := Lib.hid (joins HB.out hb)
          have hR3 := HR.out.below hb
          have HR3 := Lib.hid hR3
          have d1 := hR3.cell k hlt
          rw [show upC k D k = (0, 0) from if_neg (Nat.lt_irrefl _)] at d1
          have f1 := World.ownsRow.frozenAt hR3 k
          have hst := @store_complex Try.prog
          clear hb hR3 c1
          go_wp2_with fail
          go_roundw
          case rel =>
            have hs := HR3.out.set k (D k)
            rw [upC_set] at hs
            rw [HDK.out] at hs
            exact ⟨k + 1, by omega, by go_num, hs, belows HB3.out HLE.out _⟩
          case measure => simp [intOf]; omega
        · obtain rfl : k = n := by omega
          go_wp2_with fail
          go_returns
          refine ⟨HB.out, Or.inl ⟨rfl, w2.heap.size, rfl, ?_⟩⟩
          have := HR.out.mono HLE.out
          unfold RowC at this
          rw [upC_all] at this
          exact this
theorem phC2_ok {s : List Int} (h : sqTf s = true) : ∀ i, i < s.length → FK .f32 (phC2 s i).1 (gre (vlL s) i) ∧ FK .f32 (phC2 s i).2 (gim (vlL s) i) := fun i hi => by
  have hp := allIn_getD (isSeq_all (Bool.and_eq_true_iff.1 h).1) i hi
  have e1 : gre (vlL s) i = vx (s.getD i 0) := genG_re _ _ _ i hi
  have e2 : gim (vlL s) i = vy (s.getD i 0) := genG_im _ _ _ i hi
  rw [e1, e2]
  exact FK_unit _ hp.1 hp.2
/-- The transform of a sequence's values, as the program has it. -/
theorem seqTransform_any (s : List Int) (h : sqTf s = true) (g B : Nat) (w : World) (hr : RowC w B g s.length (phC2 s)) :
    Calls Try.prog 61 #[.int .i64 3, .slice (some ⟨g, 0, none⟩) s.length s.length] w (Leaves w s.length (fun p => (drX 1 (vlL s) s.length p, drY 1 (vlL s) s.length p))) := by
  have hz := (Bool.and_eq_true_iff.1 h).2
  have hl := sqTf_len h
  have hup : upTo (fun i => (gre (vlL s) i, gim (vlL s) i)) s.length 1000000 := fun i hi => vlL_le' s i (by rw [vlL_len]; exact hi)
  have ht := transform_any 3 s.length (dgW s.length) g B (phC2 s) (fun i => (gre (vlL s) i, gim (vlL s) i)) (by omega) (dg_pow hz) (by omega) hup w hr (phC2_ok h)
  refine ht.mono ?_
  rintro e w' ⟨g2, E, rfl, h1, h2, h3⟩
  refine ⟨g2, E, rfl, h1, fun i hi => ?_, h3⟩
  have e := tr_dr 3 1 (Or.inl ⟨rfl, rfl⟩) (vlL s) (by rw [vlL_len]; exact hz) i (by rw [vlL_len]; exact hi)
  rw [vlL_len] at e
  have h4 := h2 i hi
  rw [show trF 3 (baW 3) (dgW s.length) (fun i => (gre (vlL s) i, gim (vlL s) i)) i = _ from e] at h4
  exact h4
end Go.Proofs.Ytjoepdflbbcliac
