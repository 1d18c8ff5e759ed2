/- The program's FirstPairOfRows. -/
import Derived.Test.YtbppbkoppbnodabIHd
import Derived.Test.YtbppbkoppbnodabSHaF
namespace Go.Proofs.Ytbppbkoppbnodab
set_option maxRecDepth 100000
open Go.RowKit

/-- The rows i and j of a matrix are not orthogonal; no others are told. -/
def pbB (m : List (List Int)) (i j : Nat) : Bool := decide (i < mfN m ∧ j < mfN m) && badP m i j
def fo8 (p : Nat → Nat → Bool) (i : Nat) : Nat → List Int
  | 0 => []
  | d + 1 => match frP (p i) (i + 1) (8 - (i + 1)) with
    | some k => [(i : Int), (k : Int)]
    | none => fo8 p (i + 1) d
theorem fo8_succ (p : Nat → Nat → Bool) (i : Nat) (h : i < 8) : fo8 p i (8 - i) = match frP (p i) (i + 1) (8 - (i + 1)) with
    | some k => [(i : Int), (k : Int)]
    | none => fo8 p (i + 1) (8 - (i + 1)) := by
  rw [show 8 - i = (8 - (i + 1)) + 1 by omega]; rfl
theorem frP_ext {p q : Nat → Bool} : ∀ d j, (∀ k, j ≤ k → k < j + d → p k = q k) → frP p j d = frP q j d
  | 0, _, _ => rfl
  | d + 1, j, h => by
    simp only [frP]
    rw [h j (Nat.le_refl _) (by omega), frP_ext d (j + 1) (fun k h1 h2 => h k (by omega) (by omega))]
theorem frP_cut {p : Nat → Bool} : ∀ d j e, (∀ k, j + d ≤ k → k < j + d + e → p k = false) → frP p j (d + e) = frP p j d
  | 0, j, e, h => by
    rw [Nat.zero_add]
    show frP p j e = none
    exact (frP_none p e j).2 (fun k h1 h2 => h k (by omega) (by omega))
  | d + 1, j, e, h => by
    rw [show d + 1 + e = (d + e) + 1 by omega]
    simp only [frP]
    rw [frP_cut d (j + 1) e (fun k h1 h2 => h k (by omega) (by omega))]
theorem fo8_none (p : Nat → Nat → Bool) (n : Nat) (hp : ∀ i j, n ≤ i → p i j = false) : ∀ d i, n ≤ i → fo8 p i d = []
  | 0, _, _ => rfl
  | d + 1, i, h => by
    simp only [fo8]
    rw [(frP_none (p i) (8 - (i + 1)) (i + 1)).2 (fun k _ _ => hp i k h)]
    exact fo8_none p n hp d (i + 1) (by omega)
theorem fo8_foL (m : List (List Int)) (hm : maOk m = true) : ∀ d i, i + d = m.length → fo8 (pbB m) i (8 - i) = foL m i d
  | 0, i, h => by
    have hN : mfN m = m.length := by unfold mfN; rw [hm]; rfl
    exact fo8_none (pbB m) m.length (fun a b ha => by unfold pbB; rw [hN, decide_eq_false (by omega)]; rfl) _ i (by omega)
  | d + 1, i, h => by
    have h8 := maOk_le hm
    have hN : mfN m = m.length := by unfold mfN; rw [hm]; rfl
    rw [fo8_succ _ i (by omega)]
    have e : frP (pbB m i) (i + 1) (8 - (i + 1)) = frP (badP m i) (i + 1) (m.length - (i + 1)) := by
      rw [show 8 - (i + 1) = (m.length - (i + 1)) + (8 - m.length) by omega, frP_cut _ _ _ (fun k h1 h2 => by unfold pbB; rw [hN, decide_eq_false (by omega)]; rfl)]
      exact frP_ext _ _ (fun k h1 h2 => by unfold pbB; rw [hN, decide_eq_true (by omega)]; rfl)
    rw [e]
    simp only [foL]
    cases frP (badP m i) (i + 1) (m.length - (i + 1)) with
    | some k => rfl
    | none => exact fo8_foL m hm d (i + 1) (by omega)
theorem fo8_fp (m : List (List Int)) : fo8 (pbB m) 0 (8 - 0) = fpA m := by
  unfold fpA
  cases hm : maOk m with
  | true => exact fo8_foL m hm m.length 0 (by omega)
  | false =>
    have hN : mfN m = 0 := by unfold mfN; rw [hm]; rfl
    exact fo8_none (pbB m) 0 (fun a b _ => by unfold pbB; rw [hN, decide_eq_false (by omega)]; rfl) _ 0 (Nat.le_refl _)
theorem fp_ok (m : List (List Int)) : fpOk m = decide (0 < (fpA m).length) := by
  unfold fpOk fpA
  cases maOk m with
  | true => rfl
  | false => rfl
theorem tab_neq {m : List (List Int)} (i j : Nat) (hi : i < 8) (hj : j < 8) {P : Program} (w : World) (t : TypeId) :
    (binOp .neq t (cxV (sqV (mfN m) (inV (atM m) (mfN m)) V0 (i * 8 + j))) (.complex .f32 0 0)).run P w = .ok (.bool (pbB m i j)) w := by
  unfold cxV
  rw [run_neq_complex]
  congr 2
  unfold sqV pbB
  rw [show (i * 8 + j) / 8 = i by omega, show (i * 8 + j) % 8 = j by omega]
  by_cases h : i < mfN m ∧ j < mfN m
  · rw [if_pos h, decide_eq_true h, Bool.true_and]
    have hm : maOk m = true := by
      cases hm : maOk m with
      | true => rfl
      | false => have : mfN m = 0 := by unfold mfN; rw [hm]; rfl
                 omega
    have hN : mfN m = m.length := by unfold mfN; rw [hm]; rfl
    rw [hN] at h ⊢
    unfold inV badP
    rw [show (i * 8 + j) / 8 = i by omega, show (i * 8 + j) % 8 = j by omega]
    rw [inS_ip hm vx i j h.1 h.2, inS_ip hm vy i j h.1 h.2]
    have bx := ipS_small vx vx_one (atM m i) (atM m j) m.length 8 (Nat.le_refl _)
    have by' := ipS_small vy vy_one (atM m i) (atM m j) m.length 8 (Nat.le_refl _)
    dsimp only
    rw [f32_zero _ (by unfold ipS; omega), f32_zero _ (by unfold ipS; omega)]
  · rw [if_neg h, decide_eq_false h]
    show (!((FloatKind.f32.format.order 0 0 == some .eq) && (FloatKind.f32.format.order 0 0 == some .eq))) = false
    decide +kernel
set_option maxRecDepth 100000 in
set_option maxHeartbeats 4000000 in
theorem ifirstPairOfRows (v : Value) (m : List (List Int)) (w : World) (hv : IR w v m) (hl : sz2 m ≤ 1048576) : Calls Try.prog 30 #[v] w (MakesB w (fpA m) (fpOk m)) := by
  have HM := Lib.hid (fun w' (h : Below w.heap.size w w') => matrixFrom_any v m w' (hv.below h) hl)
  have HIN := Lib.hid (inners_any (mfV m) (mfN m) _ (mf_MxR m))
  have HNQ := Lib.hid (fun (i j : Nat) (hi : i < 8) (hj : j < 8) (w : World) (t : TypeId) => tab_neq (m := m) i j hi hj (P := Try.prog) w t)
  have ZT := Lib.hid zeroTb
  rw [fp_ok, ← fo8_fp]
  obtain ⟨p, hp⟩ : ∃ p, p = pbB m := ⟨_, rfl⟩
  rw [← hp] at HNQ ⊢
  obtain ⟨T, hT⟩ : ∃ T : Nat → Nat × Nat, T = sqV (mfN m) (inV (atM m) (mfN m)) V0 := ⟨_, rfl⟩
  rw [← hT] at HIN HNQ
  have SC := Lib.hid (rvC_size T 64)
  have OC := Lib.hid (rvC_one T 64)
  obtain ⟨C, hC⟩ : ∃ C, C = mxC (mfV m) (mfN m) := ⟨_, rfl⟩
  rw [← hC] at HM HIN
  obtain ⟨pa, cap, rfl⟩ := hv.slice
  obtain ⟨R, hR⟩ : ∃ R, R = fo8 p 0 (8 - 0) := ⟨_, rfl⟩
  rw [← hR]
  have HR0 := Lib.hid hR
  clear hv hp hT hC hR
  have B0 := Lib.hid (Below.refl w.heap.size w)
  go_enter Try.func30, Try.ntmps30
  go_wp2_with fail
  refine (HM.out _ B0.out).mono ?_
  rintro e w1 ⟨rfl, hb⟩
  have B1 := Lib.hid (joins B0.out hb)
  clear hb
  go_wp2_with fail
  refine (HIN.out _).mono ?_
  rintro e w2 ⟨rfl, hb⟩
  have B2 := Lib.hid (joins B1.out hb)
  clear hb
  go_wp2_with (first
    | ((with_reducible refine at_op (d := some 4) (Op.alloc 53) ?_); refine wpList_alloc_row rfl 53 rfl (rvC V0 64) (fun w => ZT.out w) ?_; intro w3 hr hb hz; have R3_t := Lib.hid hr; have B3 := Lib.hid (joins B2.out hb); have L3_t := Lib.hid (show w.heap.size ≤ w2.heap.size from B2.out.size); clear hr hb hz)
    | ((with_reducible refine at_op (Op.store 53 (.tmp 4) (.tmp 9)) ?_); refine wpList_put_row rfl 53 (.tmp 4) (.tmp 9) rfl (w2.heap.size) (rvC T 64) rfl rfl 53 (rvC V0 64) R3_t.out 64 infoTb SC.out (rvC_size _ _) OC.out w.heap.size w B3.out L3_t.out ?_; intro w4 hr hs hb; have R4_t := Lib.hid hr; have B4 := Lib.hid hb; clear hr hs hb))
  have RT0 := R4_t
  have BB0 := B4
  go_loopw [10] (fun q wr => ∃ a : Nat, a ≤ 8 ∧ q = .int .i64 a ∧ R = fo8 p a (8 - a) ∧ wr.heap[w2.heap.size]? = some (.cells (rvC T 64) 53 (0, 0)) ∧ Below w.heap.size w wr) (fun q _ => 8 - (intOf q).toNat)
  case atStart => exact ⟨0, Nat.zero_le _, rfl, HR0.out, RT0.out, BB0.out⟩
  case round =>
    obtain ⟨a, ha, rfl, hF, ht, hbel⟩ := hrel
    have RT := Lib.hid ht
    have BR := Lib.hid hbel
    have HFA := Lib.hid hF
    clear ht hbel hF
    generalize hwo : wr = wo at *
    clear hwo
    by_cases hlt : a < 8
    · have h0 : (0 : Int) ≤ (a : Int) := by omega
      have h1 : (a : Int) < 8 := by omega
      have hFa := HFA.out
      rw [fo8_succ p a hlt] at hFa
      have HFA2 := Lib.hid hFa
      clear hFa
      go_wp2_with fail
      go_loopw [6] (fun q wr => ∃ b : Nat, a + 1 ≤ b ∧ b ≤ 8 ∧ q = .int .i64 b ∧ frP (p a) (a + 1) (8 - (a + 1)) = frP (p a) b (8 - b) ∧ wr.heap[w2.heap.size]? = some (.cells (rvC T 64) 53 (0, 0)) ∧ Below w.heap.size w wr) (fun q _ => 8 - (intOf q).toNat)
      case atStart => exact ⟨a + 1, Nat.le_refl _, by omega, by go_num, rfl, RT.out, BR.out⟩
      case round =>
        obtain ⟨b, hab, hb, rfl, hF, ht, hbel⟩ := hrel
        have RT2 := Lib.hid ht
        have BR2 := Lib.hid hbel
        have HFB := Lib.hid hF
        clear ht hbel hF
        by_cases hlb : b < 8
        · have h0b : (0 : Int) ≤ (b : Int) := by omega
          have h1b : (b : Int) < 8 := by omega
          have ct := cell_rv RT2.out (c := a * 8 + b) (by omega)
          have hnq := HNQ.out a b hlt hlb
          unfold cxV at hnq
          obtain ⟨x, hx⟩ : ∃ x, x = (T (a * 8 + b)).1 := ⟨_, rfl⟩
          obtain ⟨y, hy⟩ : ∃ x, x = (T (a * 8 + b)).2 := ⟨_, rfl⟩
          rw [← hx, ← hy] at ct hnq
          have hnq2 : ((FloatKind.f32.format.order x 0 == some .eq) && (FloatKind.f32.format.order y 0 == some .eq)) = !(p a b) := by
            have := hnq w 0
            rw [run_neq_complex] at this
            simp only [Result.ok.injEq, Value.bool.injEq, and_true] at this
            rw [← this, Bool.not_not]
          clear hx hy
          cases hpb : p a b with
          | false =>
            rw [hpb] at hnq2 hnq
            have HPB := Lib.hid hpb
            clear hpb
            go_wp2_with fail
            go_roundw
            case rel => exact ⟨b + 1, by omega, by omega, by go_num, by rw [HFB.out, frP_no hlb HPB.out], RT2.out, BR2.out⟩
            case measure => simp [intOf]; omega
          | true =>
            rw [hpb] at hnq2 hnq
            have hf := HFA2.out
            rw [HFB.out, frP_yes hlb hpb] at hf
            have HR := Lib.hid hf
            clear hf hpb
            go_wp2_with fail
            go_returns
            exact ⟨.slice (some ⟨wr.heap.size, 0, none⟩) 2 2, by rw [HR.out]; rfl, by rw [HR.out]; exact own_two _ _ _ _ BR2.out.size, belowa BR2.out _⟩
        · obtain rfl : b = 8 := by omega
          have hf := HFB.out
          rw [frP_end (Nat.le_refl _)] at hf
          have hf2 := HFA2.out
          rw [hf] at hf2
          have HR := Lib.hid hf2
          clear hf hf2
          go_wp2_with fail
          go_roundw
          case rel => exact ⟨a + 1, by omega, by go_num, HR.out, RT2.out, BR2.out⟩
          case measure => simp [intOf]; omega
    · obtain rfl : a = 8 := by omega
      have hf : R = [] := HFA.out
      have HR := Lib.hid hf
      clear hf
      go_wp2_with fail
      go_returns
      exact ⟨.slice none 0 0, by rw [HR.out]; rfl, by rw [HR.out]; exact World.ownsRow_nil _ _ _ _, BR.out⟩
end Go.Proofs.Ytbppbkoppbnodab
