/- The program's back: divided, and tried by its transform. -/
import Derived.Test.YtccjmigdebchiaaITt
import Derived.Test.YtccjmigdebchiaaBkM
import Derived.Test.YtccjmigdebchiaaRg
namespace Go.Proofs.Ytccjmigdebchiaa
set_option maxRecDepth 100000
open Go.RowKit

set_option maxHeartbeats 1000000 in
theorem opposite_any (wv : Nat) (h : wv ≤ 3) (w : World) : Calls Try.prog 58 #[.int .i64 wv] w (Pure w (.int .i64 ((4 - wv : Nat) : Int))) := by
  rcases (show wv = 0 ∨ wv = 1 ∨ wv = 2 ∨ wv = 3 by omega) with rfl | rfl | rfl | rfl
  all_goals
    clear h
    go_enter Try.func58, Try.ntmps58
    go_wp2
    go_returns
    exact ⟨rfl, rfl⟩

theorem all_range_succ (f : Nat → Bool) (k : Nat) : (List.range (k + 1)).all f = ((List.range k).all f && f k) := by
  rw [List.range_succ, List.all_append]; simp
theorem all_range_no {f : Nat → Bool} {n k : Nat} (hk : k < n) (h : f k = false) : (List.range n).all f = false := by
  rw [List.all_eq_false]
  exact ⟨k, List.mem_range.2 hk, by simp [h]⟩
set_option maxRecDepth 100000 in
set_option maxHeartbeats 2000000 in
theorem eqC_any (g1 g2 n : Nat) (h32 : n ≤ 32) (C D : Nat → Nat × Nat) (q : Nat → Bool) (w : World) (h1 : ∀ i, i < n → w.cell? ⟨g1, i, none⟩ = some (.complex .f32 (C i).1 (C i).2)) (h2 : ∀ i, i < n → w.cell? ⟨g2, i, none⟩ = some (.complex .f32 (D i).1 (D i).2))
    (hq : ∀ i, i < n → ((FloatKind.f32.format.order (C i).1 (D i).1 == some .eq) && (FloatKind.f32.format.order (C i).2 (D i).2 == some .eq)) = q i) :
    Calls Try.prog 60 #[.slice (some ⟨g1, 0, none⟩) n n, .slice (some ⟨g2, 0, none⟩) n n] w (Ret w (.bool ((List.range n).all q))) := by
  have HS := Lib.hid (fun k => all_range_succ q k)
  have HNO := Lib.hid (fun k (hk : k < n) h => all_range_no (f := q) hk h)
  have H1 := Lib.hid h1
  have H2 := Lib.hid h2
  have HQ := Lib.hid hq
  obtain ⟨A, hA⟩ : ∃ A, A = (List.range n).all q := ⟨_, rfl⟩
  rw [← hA] at HNO ⊢
  have HA := Lib.hid hA
  clear h1 h2 hq hA
  go_enter Try.func60, Try.ntmps60
  go_wp2_with fail
  go_loopw [13] (fun i wr => ∃ k : Nat, k ≤ n ∧ i = .int .i64 k ∧ (List.range k).all q = true ∧ Below w.heap.size w wr) (fun i _ => n - (intOf i).toNat)
  case atStart => exact ⟨0, Nat.zero_le _, rfl, rfl, Below.refl _ _⟩
  case round =>
    obtain ⟨k, hk, rfl, hall, hbel⟩ := hrel
    have HB := Lib.hid hbel
    have HAL := Lib.hid hall
    clear hall hbel
    by_cases hlt : k < n
    · have h0 : (0 : Int) ≤ (k : Int) := by omega
      have h1 : (k : Int) < (n : Int) := by omega
      have c1 := keepc HB.out (H1.out k hlt)
      have c2 := keepc HB.out (H2.out k hlt)
      have hq := HQ.out k hlt
      have hs := HS.out k
      rw [HAL.out, Bool.true_and] at hs
      have hno := HNO.out k hlt
      obtain ⟨b1, hb1⟩ : ∃ b, b = (C k).1 := ⟨_, rfl⟩
      obtain ⟨b2, hb2⟩ : ∃ b, b = (C k).2 := ⟨_, rfl⟩
      obtain ⟨b3, hb3⟩ : ∃ b, b = (D k).1 := ⟨_, rfl⟩
      obtain ⟨b4, hb4⟩ : ∃ b, b = (D k).2 := ⟨_, rfl⟩
      rw [← hb1, ← hb2] at c1 hq
      rw [← hb3, ← hb4] at c2 hq
      have HE := Lib.hid hs
      have HN := Lib.hid hno
      obtain ⟨c, hc⟩ : ∃ c, c = q k := ⟨_, rfl⟩
      rw [← hc] at HE HN hq
      clear hb1 hb2 hb3 hb4 hs hno hc
      cases c with
      | true =>
        go_wp2_with fail
        go_quiet (fail)
        go_wp2_with fail
        go_roundw
        case rel => exact ⟨k + 1, by omega, by go_num, HE.out, belowN HB.out _⟩
        case measure => simp [intOf]; omega
      | false =>
        go_wp2_with fail
        go_quiet (fail)
        go_wp2_with fail
        go_returns
        exact ⟨ret_bool (by rw [HN.out trivial]), belowN HB.out _⟩
    · obtain rfl : k = n := by omega
      go_wp2_with fail
      go_returns
      exact ⟨ret_bool (by rw [HA.out, HAL.out]), HB.out⟩

/-! ### divided -/
theorem even_of {L : Int} {N : Nat} (hN : N % 2 = 0) (h : L.tmod (N : Int) = 0) : L % 2 = 0 := by
  obtain ⟨k, hk⟩ := Int.dvd_of_tmod_eq_zero h
  obtain ⟨m, hm⟩ : ∃ m, N = 2 * m := ⟨N / 2, by omega⟩
  rw [hk, hm, Int.natCast_mul, Int.mul_assoc]
  exact Int.mul_emod_right _ _
theorem quoR {b : Nat} {L : Int} {N : Nat} (h : FA b L) (hN1 : 1 ≤ N) (hN : N = 1 ∨ N % 2 = 0) (hN32 : N ≤ 32) (hL : -((N : Int) * 1000000) ≤ L ∧ L ≤ (N : Int) * 1000000) :
    ∃ r, floatToIntVal .f32 b .i64 = some r ∧ (-1000000 ≤ r.tdiv (N : Int) ∧ r.tdiv (N : Int) ≤ 1000000) ∧ (L = (N : Int) * r.tdiv (N : Int) ↔ L.tmod (N : Int) = 0) ∧ (L.tmod (N : Int) = 0 → r.tdiv (N : Int) = L.tdiv (N : Int)) := by
  obtain ⟨r, e, a1, a2⟩ := FA_toInt h
  have hr : L.tmod (N : Int) = 0 → r = L := fun hm => by
    by_cases hs : L.natAbs < 16777216
    · exact a1 hs
    · have h3 := a2 (by omega)
      rcases hN with rfl | hN
      · omega
      · exact h3.2.2 (even_of hN hm)
  refine ⟨r, e, ?_, ⟨fun he => by rw [he]; exact Int.mul_tmod_right _ _, fun hm => ?_⟩, fun hm => by rw [hr hm]⟩
  · have hb : r.natAbs ≤ N * 1000000 + 1 := by
      by_cases hs : L.natAbs < 16777216
      · rw [a1 hs]; omega
      · have := (a2 (by omega)).2.1; omega
    have hb1 : N = 1 → r.natAbs ≤ 1000000 := fun h1 => by
      subst h1
      rw [a1 (by omega)]; omega
    have hd : (r.tdiv (N : Int)).natAbs ≤ 1000000 := by
      rw [Int.natAbs_tdiv, Int.natAbs_natCast]
      show r.natAbs / N ≤ 1000000
      rcases (show N = 1 ∨ 2 ≤ N by omega) with h1 | h1
      · have := hb1 h1
        subst h1
        rw [Nat.div_one]; exact this
      · have : r.natAbs / N < 1000001 := Nat.div_lt_of_lt_mul (by omega)
        omega
    omega
  · rw [hr hm]
    have := Int.mul_tdiv_add_tmod L (N : Int)
    rw [hm, Int.add_zero] at this
    exact this.symm
def bkQ (N : Nat) (L : Nat → Int × Int) : Bool := (List.range N).all (fun i => dvP (N : Int) (L i).1 (L i).2)
theorem bk_all {w o b K : Nat} (h : Undo w o b) (Z D : Nat → Int × Int) (N : Nat) (hN : N = b ^ K)
    (hD : ∀ i, i < N → ((trF o b K Z i).1 = (N : Int) * (D i).1 ↔ (trF o b K Z i).1.tmod (N : Int) = 0) ∧ ((trF o b K Z i).2 = (N : Int) * (D i).2 ↔ (trF o b K Z i).2.tmod (N : Int) = 0)) :
    (List.range N).all (fun i => decide ((trF w b K D i).1 = (Z i).1) && decide ((trF w b K D i).2 = (Z i).2)) = bkQ N (trF o b K Z) := by
  have hb := tr_back h (K := K) Z D
  rw [← hN] at hb
  unfold bkQ
  rw [Bool.eq_iff_iff, List.all_eq_true, List.all_eq_true]
  constructor
  · intro H i hi
    have hi := List.mem_range.1 hi
    have h1 := hb.1 (fun j hj => by
      have := H j (List.mem_range.2 hj)
      simp only [Bool.and_eq_true, decide_eq_true_eq] at this
      exact Prod.ext this.1 this.2) i hi
    have e1 := congrArg Prod.fst h1
    have e2 := congrArg Prod.snd h1
    unfold dvP
    rw [decide_eq_true ((hD i hi).1.1 e1), decide_eq_true ((hD i hi).2.1 e2)]
    rfl
  · intro H i hi
    have hi := List.mem_range.1 hi
    have h1 := hb.2 (fun j hj => by
      have := H j (List.mem_range.2 hj)
      unfold dvP at this
      simp only [Bool.and_eq_true, decide_eq_true_eq] at this
      exact Prod.ext ((hD j hj).1.2 this.1) ((hD j hj).2.2 this.2)) i hi
    rw [h1]
    simp

set_option maxRecDepth 100000 in
set_option maxHeartbeats 4000000 in
theorem back_any (wv K N g2 B2 : Nat) (C : Nat → Nat × Nat) (Z : Nat → Int × Int) (hw : wv = 2 ∨ wv = 3) (hNK : N = baW wv ^ K) (hN32 : N ≤ 32)
    (hZ : upTo Z N 1000000) (w : World) (hcut : RowC w B2 g2 N C) (hC : ∀ q, q < N → FK .f32 (C q).1 (Z q).1 ∧ FK .f32 (C q).2 (Z q).2) :
    Calls Try.prog 52 #[.int .i64 wv, .slice (some ⟨g2, 0, none⟩) N N] w (fun e w' => ∃ (g : Nat) (D : Nat → Int × Int), e = .returned (.tuple #[.slice (some ⟨g, 0, none⟩) N N, .bool (bkQ N (trF (4 - wv) (baW wv) K Z))]) ∧ RowC w' w.heap.size g N (fbC (fun i => (D i).1) (fun i => (D i).2)) ∧
      (∀ i, i < N → good (D i).1 (D i).2 = true) ∧ (bkQ N (trF (4 - wv) (baW wv) K Z) = true → ∀ i, i < N → D i = ((trF (4 - wv) (baW wv) K Z i).1.tdiv (N : Int), (trF (4 - wv) (baW wv) K Z i).2.tdiv (N : Int))) ∧ Below w.heap.size w w') := by
  obtain ⟨i0, hi, hz0, hz1, hz2⟩ := info_parts infoC
  have hbo : baW (4 - wv) = baW wv := by rcases hw with rfl | rfl <;> rfl
  have hun : Undo wv (4 - wv) (baW wv) := by
    rcases hw with rfl | rfl
    · exact Or.inr (Or.inr ⟨rfl, rfl, rfl⟩)
    · exact Or.inl ⟨rfl, rfl, rfl⟩
  have hbb : baW wv = 2 ∨ baW wv = 4 := by unfold baW; split <;> simp
  have hN1 : 1 ≤ N := by rw [hNK]; exact Nat.pow_pos (by omega)
  have hN2 : N = 1 ∨ N % 2 = 0 := by
    rcases Nat.eq_zero_or_pos K with rfl | hK
    · exact Or.inl (by rw [hNK]; rfl)
    · refine Or.inr ?_
      obtain ⟨m, rfl⟩ : ∃ m, K = m + 1 := ⟨K - 1, by omega⟩
      rw [hNK, Nat.pow_succ]
      rcases hbb with h | h <;> rw [h] <;> omega
  have hHB := tr_le (w := 4 - wv) (b := baW wv) hbb hNK hZ K (Nat.le_refl _)
  rw [← hNK] at hHB
  have hT1 := transform_at (4 - wv) N K g2 B2 C Z (by omega) (by rw [hbo]; exact hNK) hN32 hZ
  rw [hbo] at hT1
  have HT1 := Lib.hid (fun w' (hb : Below w.heap.size w w') => hT1 w' (hcut.below hb) hC)
  have HT2 := Lib.hid (fun (X Y : Nat → Int) (h : ∀ i, i < N → good (X i) (Y i) = true) (g : Nat) (w' : World) (hr : RowC w' w.heap.size g N (fbC X Y)) =>
    transform_at wv N K g w.heap.size (fbC X Y) (fun i => (X i, Y i)) (by omega) hNK hN32 (fun i hi => good_in (h i hi)) w' hr (fun q hq => fbC_ok X Y N h q hq))
  have HQ := Lib.hid (fun D hD => bk_all hun Z D N hNK hD)
  have HOP := Lib.hid (opposite_any wv (by omega))
  have HEQ := Lib.hid (fun g1 E (q : Nat → Bool) (w' : World) (hb : Below w.heap.size w w') h1 hq => eqC_any g1 g2 N hN32 E C q w' h1 (fun i hi => (hcut.below hb).cell i hi) hq)
  have HLT := Lib.hid (show g2 < w.heap.size from hcut.lt.2)
  obtain ⟨L, hL⟩ : ∃ L, L = trF (4 - wv) (baW wv) K Z := ⟨_, rfl⟩
  rw [← hL] at hHB HT1 HQ ⊢
  obtain ⟨o, ho⟩ : ∃ o, o = 4 - wv := ⟨_, rfl⟩
  rw [← ho] at HT1 HOP
  have HQR := Lib.hid (fun (E : Nat → Nat × Nat) (h : ∀ i, i < N → FA (E i).1 (L i).1 ∧ FA (E i).2 (L i).2) i (hi : i < N) => And.intro (quoR (h i hi).1 hN1 hN2 hN32 (hHB i hi).1) (quoR (h i hi).2 hN1 hN2 hN32 (hHB i hi).2))
  obtain ⟨q, hq⟩ : ∃ q, q = bkQ N L := ⟨_, rfl⟩
  rw [← hq] at HQ ⊢
  have HQD := Lib.hid (show q = true → ∀ i, i < N → (L i).1.tmod (N : Int) = 0 ∧ (L i).2.tmod (N : Int) = 0 from fun h i hi => by
    rw [hq] at h
    unfold bkQ at h
    have := List.all_eq_true.1 h i (List.mem_range.2 hi)
    unfold dvP at this
    simpa only [Bool.and_eq_true, decide_eq_true_eq] using this)
  have HZC := Lib.hid (And.intro hZ hC)
  have HN0 := Lib.hid (show ¬ N = 0 by omega)
  clear hw hNK hZ hcut hC hbo hun hbb hN2 hHB hT1 hL ho hq
  go_enter Try.func52, Try.ntmps52
  go_wp2_with (at_make; refine wpList_make_full _ rfl _ _ 78 rfl w.heap.size 47 i0 (.complex .f32 0 0) 1 Try.underlying78 hi hz0 hz1 _ _ _ _ N rfl rfl rfl rfl ?b2 ?b3 (Nat.le_refl _) ?_)
  case b2 => rw [hz2]; omega
  case b3 => unfold maxLen; omega
  intro w0 hown0 hgrow0
  have HB0 := Lib.hid (show Below w.heap.size w w0 from (Below.refl _ _).grown hgrow0 (Nat.le_refl _) (fun k h => by cases h))
  have HR0 := Lib.hid (show RowC w0 w.heap.size w.heap.size N (fun _ => (0, 0)) by
    unfold RowC
    rw [← cx_zeros]
    simpa using hown0)
  clear hown0 hgrow0 hi hz0 hz1 hz2
  go_wp2_with fail
  refine (HOP.out _).mono ?_
  rintro e w1 ⟨rfl, rfl⟩
  go_wp2_with fail
  refine (HT1.out _ HB0.out).mono ?_
  rintro e w1 ⟨g3, E, rfl, hr3, hf3, hb3, hg3⟩
  have HB1 := Lib.hid (joins HB0.out hb3)
  have HR1 := Lib.hid (HR0.out.below hb3)
  have HX1 := Lib.hid hr3
  have HNE := Lib.hid (show g3 ≠ w.heap.size by
    have h1 := HLT.out
    have h2 := HR0.out.lt
    rcases hg3 with h | h <;> omega)
  have hqr := HQR.out E hf3
  obtain ⟨R, hR⟩ : ∃ R : Nat → Int × Int, R = fun i => ((floatToIntVal .f32 (E i).1 .i64).getD 0, (floatToIntVal .f32 (E i).2 .i64).getD 0) := ⟨_, rfl⟩
  have HRI := Lib.hid (show ∀ i, i < N → floatToIntVal .f32 (E i).1 .i64 = some (R i).1 ∧ floatToIntVal .f32 (E i).2 .i64 = some (R i).2 from fun i hi => by
    obtain ⟨⟨r, e1, -⟩, ⟨s, e2, -⟩⟩ := hqr i hi
    rw [hR]; simp only [e1, e2, Option.getD_some, and_self])
  obtain ⟨X, hX⟩ : ∃ X : Nat → Int, X = fun i => (R i).1.tdiv (N : Int) := ⟨_, rfl⟩
  obtain ⟨Y, hY⟩ : ∃ X : Nat → Int, X = fun i => (R i).2.tdiv (N : Int) := ⟨_, rfl⟩
  have HXI := Lib.hid (fun i => And.intro (show X i = (R i).1.tdiv (N : Int) by rw [hX]) (show Y i = (R i).2.tdiv (N : Int) by rw [hY]))
  have HGD := Lib.hid (show ∀ i, i < N → good (X i) (Y i) = true ∧ ((L i).1 = (N : Int) * X i ↔ (L i).1.tmod (N : Int) = 0) ∧ ((L i).2 = (N : Int) * Y i ↔ (L i).2.tmod (N : Int) = 0) ∧ ((L i).1.tmod (N : Int) = 0 → X i = (L i).1.tdiv (N : Int)) ∧ ((L i).2.tmod (N : Int) = 0 → Y i = (L i).2.tdiv (N : Int)) from fun i hi => by
    obtain ⟨⟨r, e1, a1, a2, a3⟩, ⟨s, e2, b1, b2, b3⟩⟩ := hqr i hi
    have h1 := HRI.out i hi
    rw [e1, e2] at h1
    rw [(HXI.out i).1, (HXI.out i).2, ← Option.some.inj h1.1, ← Option.some.inj h1.2]
    refine ⟨?_, a2, b2, a3, b3⟩
    unfold good
    exact decide_eq_true ⟨a1, b1⟩)
  have HXY := Lib.hid (show ∀ i, fbC X Y i = (fb (X i), fb (Y i)) from fun _ => rfl)
  obtain ⟨DD, hDD⟩ : ∃ D, D = fbC X Y := ⟨_, rfl⟩
  have HDD := Lib.hid hDD
  rw [← hDD] at HXY
  have HR1' := Lib.hid (show RowC w1 w.heap.size w.heap.size N (upC 0 DD) by rw [upC_zero]; exact HR1.out)
  clear hr3 hf3 hb3 hg3 hqr hR hX hY hDD HR0 HR1 HT1 HQR
  go_wp2_with fail
  go_loopw [18] (fun i wr => ∃ k : Nat, k ≤ N ∧ i = .int .i64 k ∧ RowC wr w.heap.size w.heap.size N (upC k DD) ∧ RowC wr 0 g3 N E ∧ Below w.heap.size w wr) (fun i _ => N - (intOf i).toNat)
  case atStart => exact ⟨0, Nat.zero_le _, rfl, HR1'.out, HX1.out, HB1.out⟩
  case round =>
    obtain ⟨k, hk, rfl, hrow, hx, hbel⟩ := hrel
    have HR := Lib.hid hrow
    have HX := Lib.hid hx
    have HB := Lib.hid hbel
    clear hrow hx hbel
    by_cases hlt : k < N
    · have h0 : (0 : Int) ≤ (k : Int) := by omega
      have h1 : (k : Int) < (N : Int) := by omega
      have c1 := HX.out.cell k hlt
      have hri := HRI.out k hlt
      have hxi := HXI.out k
      have hst0 := upC_set k DD
      rw [HXY.out k] at hst0
      have hgd := (HGD.out k hlt).1
      obtain ⟨p1, hp1⟩ : ∃ p, p = (E k).1 := ⟨_, rfl⟩
      obtain ⟨p2, hp2⟩ : ∃ p, p = (E k).2 := ⟨_, rfl⟩
      rw [← hp1, ← hp2] at c1 hri
      obtain ⟨r1, hr1⟩ : ∃ r, r = (R k).1 := ⟨_, rfl⟩
      obtain ⟨r2, hr2⟩ : ∃ r, r = (R k).2 := ⟨_, rfl⟩
      rw [← hr1, ← hr2] at hri hxi
      obtain ⟨x, hx⟩ : ∃ r, r = X k := ⟨_, rfl⟩
      obtain ⟨y, hy⟩ : ∃ r, r = Y k := ⟨_, rfl⟩
      rw [← hx, ← hy] at hxi hst0 hgd
      have hgi := good_in hgd
      have HQ1 := Lib.hid (show IntKind.i64.wrap (r1.tdiv (N : Int)) = x by rw [← hxi.1]; exact IntWalk.i64_in _ (by omega))
      have HQ2 := Lib.hid (show IntKind.i64.wrap (r2.tdiv (N : Int)) = y by rw [← hxi.2]; exact IntWalk.i64_in _ (by omega))
      have HGO := Lib.hid (gaussOf_int p1 p2 r1 r2 hri.1 hri.2)
      have HGV := Lib.hid (gaussValue_any x y)
      obtain ⟨b1, hb1⟩ : ∃ b1, b1 = fb x := ⟨_, rfl⟩
      obtain ⟨b2, hb2⟩ : ∃ b1, b1 = fb y := ⟨_, rfl⟩
      rw [← hb1, ← hb2] at HGV hst0
      have HST := Lib.hid hst0
      clear hri hxi hst0 hgd hgi hp1 hp2 hr1 hr2 hx hy hb1 hb2
      go_wp2_with fail
      refine (HGO.out _).mono ?_
      rintro e w2 ⟨rfl, hb⟩
      have HB2 := Lib.hid (joins HB.out hb)
      have HR2 := Lib.hid (HR.out.below hb)
      have HX2 := Lib.hid (HX.out.below hb)
      clear hb c1
      go_wp2_with fail
      obtain ⟨w5, hw5⟩ : ∃ w5, w5 = w2.alloc (.cells #[.int .i64 r1, .int .i64 r2] 25) := ⟨_, rfl⟩
      rw [← hw5]
      have HZ1 := Lib.hid (show w5.cell? ⟨w2.heap.size, 0, none⟩ = some (.int .i64 r1) by rw [hw5]; exact cell_new0 _ _ _ _)
      have HZ2 := Lib.hid (show w5.cell? ⟨w2.heap.size, 1, none⟩ = some (.int .i64 r2) by rw [hw5]; exact cell_new1 _ _ _ _)
      have HB5 := Lib.hid (show Below w.heap.size w w5 by rw [hw5]; exact belowa HB2.out _)
      have HR5 := Lib.hid (show RowC w5 w.heap.size w.heap.size N (upC k DD) by rw [hw5]; exact HR2.out.below (belowa (Below.refl _ _) _))
      have HX5 := Lib.hid (show RowC w5 0 g3 N E by rw [hw5]; exact HX2.out.below (belowa (Below.refl _ _) _))
      have HNZ := Lib.hid (show some w.heap.size ≠ some w2.heap.size from fun e => by have := HR2.out.lt; have := Option.some.inj e; omega)
      have CS5 := Lib.hid (show w5.cell? ⟨w.heap.size, k, none⟩ = some (.complex .f32 0 0) by
        have := HR5.out.cell k hlt
        rw [show upC k DD k = (0, 0) from if_neg (Nat.lt_irrefl _)] at this
        exact this)
      clear hw5
      refine wp_region_held_drew (S := (fun w' => World.grownBy w5 w' (some (w.heap.size)))) (by kernel_rfl) (grownDrew (World.grownBy.refl _ _)) ?_
      obtain ⟨d1, hdw⟩ : ∃ w', w' = w5.drew := ⟨_, rfl⟩
      rw [← hdw]
      have hb : Below w5.heap.size w5 d1 := by rw [hdw]; exact belowN (Below.refl _ _) 1
      have F1_HR := Lib.hid (RowC.below HR5.out hb)
      have F1_HX := Lib.hid (RowC.below HX5.out hb)
      have F1_CS := Lib.hid (keepc hb CS5.out)
      have F1_HB := Lib.hid (joins HB5.out hb)
      clear hdw hb
      intro hHeld
      refine' wpAnyH_take (i := 0) (v := _) rfl (by kernel_rfl) (by kernel_rfl) (by kernel_rfl) (fun _ _ _ h => h) (Or.inl ⟨by rfl, ?hy1⟩) (by assumption) ?rest1
      case hy1 =>
        intro w h
        (try clear h)
        go_simp
        (try with_reducible rfl)
      (try simp only [Act.put, List.getElem_toArray, List.getElem_cons_zero, List.setIfInBounds_toArray, List.set_cons_zero, List.set_cons_succ])
      refine' wpAnyH_take (i := 1) (v := _) rfl (by kernel_rfl) (by kernel_rfl) (by kernel_rfl) (fun _ _ _ h => h) (Or.inl ⟨by rfl, ?hy2⟩) (by assumption) ?rest2
      case hy2 =>
        intro w h
        (try clear h)
        go_simp
        (try with_reducible rfl)
      (try simp only [Act.put, List.getElem_toArray, List.getElem_cons_zero, List.getElem_cons_succ, List.setIfInBounds_toArray, List.set_cons_zero, List.set_cons_succ])
      refine' wpAnyH_take (i := 2) (v := _) rfl (by kernel_rfl) (by kernel_rfl) (by kernel_rfl) (fun _ _ _ h => h) (Or.inl ⟨by rfl, ?hy3⟩) (by assumption) ?rest3
      case hy3 =>
        intro w h
        (try clear h)
        go_simp
        (try with_reducible rfl)
      (try simp only [Act.put, List.getElem_toArray, List.getElem_cons_zero, List.getElem_cons_succ, List.setIfInBounds_toArray, List.set_cons_zero, List.set_cons_succ])
      refine' wpAnyH_take (i := 3) (v := _) rfl (by kernel_rfl) (by kernel_rfl) (by kernel_rfl) (fun _ _ _ h => h) (Or.inl ⟨by rfl, ?hy4⟩) (by assumption) ?rest4
      case hy4 =>
        intro w h
        have c1 := cellR h HZ1.out HNZ.out
        (try clear h)
        go_simp
        (try with_reducible rfl)
      (try simp only [Act.put, List.getElem_toArray, List.getElem_cons_zero, List.getElem_cons_succ, List.setIfInBounds_toArray, List.set_cons_zero, List.set_cons_succ])
      refine' wpAnyH_take (i := 4) (v := _) rfl (by kernel_rfl) (by kernel_rfl) (by kernel_rfl) (fun _ _ _ h => h) (Or.inl ⟨by rfl, ?hy5⟩) (by assumption) ?rest5
      case hy5 =>
        intro w h
        (try clear h)
        go_simp
        (try with_reducible rfl)
      (try simp only [Act.put, List.getElem_toArray, List.getElem_cons_zero, List.getElem_cons_succ, List.setIfInBounds_toArray, List.set_cons_zero, List.set_cons_succ])
      refine' wpAnyH_take (i := 5) (v := _) rfl (by kernel_rfl) (by kernel_rfl) (by kernel_rfl) (fun _ _ _ h => h) (Or.inl ⟨by rfl, ?hy6⟩) (by assumption) ?rest6
      case hy6 =>
        intro w h
        (try clear h)
        go_simp
        (try with_reducible rfl)
      (try simp only [Act.put, List.getElem_toArray, List.getElem_cons_zero, List.getElem_cons_succ, List.setIfInBounds_toArray, List.set_cons_zero, List.set_cons_succ])
      refine' wpAnyH_take (i := 6) (v := _) rfl (by kernel_rfl) (by kernel_rfl) (by kernel_rfl) (fun _ _ _ h => h) (Or.inl ⟨by rfl, ?hy7⟩) (by assumption) ?rest7
      case hy7 =>
        intro w h
        have q1 := HQ1.out
        have q0 := HN0.out
        (try clear h)
        go_simp
        (try with_reducible rfl)
      (try simp only [Act.put, List.getElem_toArray, List.getElem_cons_zero, List.getElem_cons_succ, List.setIfInBounds_toArray, List.set_cons_zero, List.set_cons_succ])
      refine' wpAnyH_take (i := 7) (v := _) rfl (by kernel_rfl) (by kernel_rfl) (by kernel_rfl) (fun _ _ _ h => h) (Or.inl ⟨by rfl, ?hy8⟩) (by assumption) ?rest8
      case hy8 =>
        intro w h
        (try clear h)
        go_simp
        (try with_reducible rfl)
      (try simp only [Act.put, List.getElem_toArray, List.getElem_cons_zero, List.getElem_cons_succ, List.setIfInBounds_toArray, List.set_cons_zero, List.set_cons_succ])
      refine' wpAnyH_take (i := 8) (v := _) rfl (by kernel_rfl) (by kernel_rfl) (by kernel_rfl) (fun _ _ _ h => h) (Or.inl ⟨by rfl, ?hy9⟩) (by assumption) ?rest9
      case hy9 =>
        intro w h
        have c1 := cellR h HZ2.out HNZ.out
        (try clear h)
        go_simp
        (try with_reducible rfl)
      (try simp only [Act.put, List.getElem_toArray, List.getElem_cons_zero, List.getElem_cons_succ, List.setIfInBounds_toArray, List.set_cons_zero, List.set_cons_succ])
      refine' wpAnyH_take (i := 9) (v := _) rfl (by kernel_rfl) (by kernel_rfl) (by kernel_rfl) (fun _ _ _ h => h) (Or.inl ⟨by rfl, ?hy10⟩) (by assumption) ?rest10
      case hy10 =>
        intro w h
        (try clear h)
        go_simp
        (try with_reducible rfl)
      (try simp only [Act.put, List.getElem_toArray, List.getElem_cons_zero, List.getElem_cons_succ, List.setIfInBounds_toArray, List.set_cons_zero, List.set_cons_succ])
      refine' wpAnyH_take (i := 10) (v := _) rfl (by kernel_rfl) (by kernel_rfl) (by kernel_rfl) (fun _ _ _ h => h) (Or.inl ⟨by rfl, ?hy11⟩) (by assumption) ?rest11
      case hy11 =>
        intro w h
        (try clear h)
        go_simp
        (try with_reducible rfl)
      (try simp only [Act.put, List.getElem_toArray, List.getElem_cons_zero, List.getElem_cons_succ, List.setIfInBounds_toArray, List.set_cons_zero, List.set_cons_succ])
      refine' wpAnyH_take (i := 11) (v := _) rfl (by kernel_rfl) (by kernel_rfl) (by kernel_rfl) (fun _ _ _ h => h) (Or.inl ⟨by rfl, ?hy12⟩) (by assumption) ?rest12
      case hy12 =>
        intro w h
        have q1 := HQ2.out
        have q0 := HN0.out
        (try clear h)
        go_simp
        (try with_reducible rfl)
      (try simp only [Act.put, List.getElem_toArray, List.getElem_cons_zero, List.getElem_cons_succ, List.setIfInBounds_toArray, List.set_cons_zero, List.set_cons_succ])
      refine' wpAnyH_take (i := 12) (v := _) rfl (by kernel_rfl) (by kernel_rfl) (by kernel_rfl) (fun _ _ _ h => h) (Or.inl ⟨by rfl, ?hy13⟩) (by assumption) ?rest13
      case hy13 =>
        intro w h
        (try clear h)
        go_simp
        (try with_reducible rfl)
      (try simp only [Act.put, List.getElem_toArray, List.getElem_cons_zero, List.getElem_cons_succ, List.setIfInBounds_toArray, List.set_cons_zero, List.set_cons_succ])
      refine wpAnyH_ready (rs := [13]) (by kernel_rfl) (by simp) ?_
      refine AllReadyH.cons rfl (fun K hK => ?_) AllReadyH.nil
      go_simp
      refine (HGV.out _).mono ?_
      rintro e d2 ⟨rfl, hb⟩
      have F2_HR := Lib.hid (RowC.below F1_HR.out hb)
      have F2_HX := Lib.hid (RowC.below F1_HX.out hb)
      have F2_CS := Lib.hid (keepc hb F1_CS.out)
      have F2_HB := Lib.hid (joins F1_HB.out hb)
      have hHeld := grownB hHeld hb
      clear hb
      refine hK.out _ _ hHeld (fun hHeld => ?_)
      clear hK K
      (try simp only [Act.put, List.getElem_toArray, List.getElem_cons_zero, List.getElem_cons_succ, List.setIfInBounds_toArray, List.set_cons_zero, List.set_cons_succ])
      refine' wpAnyH_take (i := 14) (v := _) rfl (by kernel_rfl) (by kernel_rfl) (by kernel_rfl) (fun _ _ _ h => h) (Or.inl ⟨by rfl, ?hy14⟩) (by assumption) ?rest14
      case hy14 =>
        intro w h
        (try clear h)
        go_simp
        (try with_reducible rfl)
      (try simp only [Act.put, List.getElem_toArray, List.getElem_cons_zero, List.getElem_cons_succ, List.setIfInBounds_toArray, List.set_cons_zero, List.set_cons_succ])
      refine wpAnyH_ready (rs := [15]) (by kernel_rfl) (by simp) ?_
      refine AllReadyH.cons rfl (fun K hK => ?_) AllReadyH.nil
      have c1 := F2_CS.out
      have f1 := World.ownsRow.frozenAt F2_HR.out k
      have hst := @store_complex Try.prog
      go_simp
      refine hK.out _ _ (grownSet hHeld _ _) (fun hHeld => ?_)
      clear hK K
      (try simp only [Act.put])
      refine wpAnyH_done (by kernel_rfl) ?_ _
      go_wp2_with fail
      go_roundw
      case rel =>
        have hs := RowC.set F2_HR.out k (b1, b2)
        rw [HST.out] at hs
        exact ⟨k + 1, by omega, by go_num, hs, RowC.grown F2_HX.out (grownSet (World.grownBy.refl _ _) _ _) HNE.out, belows F2_HB.out (Nat.le_refl _) _⟩
      case measure => simp [intOf]; omega
    · obtain rfl : k = N := by omega
      have HRN := Lib.hid (show RowC wr w.heap.size w.heap.size k (fbC X Y) by
        have := HR.out
        unfold RowC at this ⊢
        rw [upC_all, HDD.out] at this
        exact this)
      have HTT := Lib.hid (HT2.out X Y (fun i hi => (HGD.out i hi).1) w.heap.size wr HRN.out)
      go_wp2_with fail
      refine (HTT.out).mono ?_
      rintro e w4 ⟨g4, E4, rfl, hr4, hf4, hb4, -⟩
      have HB4 := Lib.hid (joins HB.out hb4)
      have HR4 := Lib.hid (HRN.out.below hb4)
      have HEE := Lib.hid (HEQ.out g4 E4 _ w4 HB4.out (fun i hi => hr4.cell i hi) (fun i hi => by
        have h := hf4 i hi
        have hz := HZC.out.1 i hi
        have hc := HZC.out.2 i hi
        rw [FA_eq h.1 hc.1 (by omega), FA_eq h.2 hc.2 (by omega)]))
      have hqq := HQ.out (fun i => (X i, Y i)) (fun i hi => ⟨(HGD.out i hi).2.1, (HGD.out i hi).2.2.1⟩)
      rw [hqq] at HEE
      clear hr4 hf4 hb4 hqq
      go_wp2_with fail
      refine (HEE.out).mono ?_
      rintro e w5 ⟨rfl, hb5⟩
      have HB5 := Lib.hid (joins HB4.out hb5)
      have HR5 := Lib.hid (HR4.out.below hb5)
      clear hb5
      go_wp2_with fail
      go_returns
      refine ⟨w.heap.size, fun i => (X i, Y i), rfl, HR5.out, fun i hi => (HGD.out i hi).1, fun h i hi => ?_, HB5.out⟩
      have h2 := HQD.out h i hi
      exact Prod.ext ((HGD.out i hi).2.2.2.1 h2.1) ((HGD.out i hi).2.2.2.2 h2.2)

set_option maxRecDepth 100000 in
set_option maxHeartbeats 2000000 in
theorem backOf_any (wv K : Nat) (q : Bool) (v : Value) (l : List (Int × Int)) (hw : wv = 2 ∨ wv = 3) (hf : ∀ w, Calls Try.prog 55 #[.int .i64 wv, .int .i64 l.length] w (Pure w (.bool q))) (hq : q = true → l.length = baW wv ^ K ∧ 1 ≤ l.length ∧ l.length ≤ 32) (w : World) (hv : IG w v l)
    (L : List (Int × Int)) (hL : q = true → L = genG l.length (fun i => (trF (4 - wv) (baW wv) K (fun i => (gre l i, gim l i)) i).1) (fun i => (trF (4 - wv) (baW wv) K (fun i => (gre l i, gim l i)) i).2)) :
    Calls Try.prog 35 #[.int .i64 wv, v] w (MakesGB w (if (q && goodL l) && shOk l.length L then shL l.length L else []) ((q && goodL l) && shOk l.length L)) := by
  have HS := Lib.hid (signalOf_any wv q v l hf (fun h => (hq h).2) w hv)
  cases hok : (q && goodL l) with
  | false =>
    rw [hok] at HS
    rw [Bool.false_and, if_neg Bool.false_ne_true]
    clear hq hf hv hL hok
    go_enter Try.func35, Try.ntmps35
    go_wp2_with fail
    refine (HS.out).mono ?_
    rintro e w1 ⟨hb, ⟨h, _⟩ | ⟨_, rfl⟩⟩
    · cases h
    have HB := Lib.hid hb
    clear hb
    go_wp2_with fail
    go_returns
    exact ⟨_, rfl, OwnG.nil _ _, HB.out⟩
  | true =>
    rw [hok] at HS
    rw [Bool.true_and]
    have hqt := (Bool.and_eq_true_iff.1 hok).1
    have hgl := (Bool.and_eq_true_iff.1 hok).2
    obtain ⟨hn, hn1, hn32⟩ := hq hqt
    have hL := hL hqt
    have hfc := fbC_ok (gre l) (gim l) l.length (fun i hi => goodL_at hgl i hi)
    have hup : upTo (fun i => (gre l i, gim l i)) l.length 1000000 := fun i hi => good_in (goodL_at hgl i hi)
    obtain ⟨n, hnn⟩ : ∃ n, n = l.length := ⟨_, rfl⟩
    rw [← hnn] at HS hn hn1 hn32 hL hfc hup
    rw [← hnn]
    obtain ⟨D, hD⟩ : ∃ D, D = fbC (gre l) (gim l) := ⟨_, rfl⟩
    rw [← hD] at HS hfc
    have HBK := Lib.hid (fun (g B : Nat) (w' : World) (hr : RowC w' B g n D) => back_any wv K n g B D (fun i => (gre l i, gim l i)) hw hn hn32 hup w' hr hfc)
    obtain ⟨T, hT⟩ : ∃ T, T = trF (4 - wv) (baW wv) K (fun i => (gre l i, gim l i)) := ⟨_, rfl⟩
    rw [← hT] at HBK hL
    have hre : ∀ i, i < n → gre L i = (T i).1 := fun i hi => by rw [hL]; exact genG_re _ _ _ _ hi
    have him : ∀ i, i < n → gim L i = (T i).2 := fun i hi => by rw [hL]; exact genG_im _ _ _ _ hi
    have hlen : L.length = n := by rw [hL]; exact genG_length _ _ _
    have hst : shTo n L L.length = bkQ n T := by
      rw [hlen]
      unfold shTo bkQ
      rw [Bool.eq_iff_iff, List.all_eq_true, List.all_eq_true]
      constructor
      · intro H i hi
        have := H i hi
        rwa [hre i (List.mem_range.1 hi), him i (List.mem_range.1 hi)] at this
      · intro H i hi
        have := H i hi
        rw [hre i (List.mem_range.1 hi), him i (List.mem_range.1 hi)]
        exact this
    have hsl : shL n L = genG n (fun i => (T i).1.tdiv (n : Int)) (fun i => (T i).2.tdiv (n : Int)) := by
      unfold shL
      rw [hlen]
      exact genG_ext (fun i hi => by rw [hre i hi]) (fun i hi => by rw [him i hi])
    have HEND := Lib.hid (show ∀ (X Y : Nat → Int), (∀ i, i < n → good (X i) (Y i) = true) → bkQ n T = true → (∀ i, i < n → (X i, Y i) = ((T i).1.tdiv (n : Int), (T i).2.tdiv (n : Int))) → goodL (genG n X Y) = true ∧ shOk n L = true ∧ shL n L = genG n X Y from fun X Y hg hb he => by
      have e1 : shL n L = genG n X Y := by
        rw [hsl]
        exact genG_ext (fun i hi => (congrArg Prod.fst (he i hi)).symm) (fun i hi => (congrArg Prod.snd (he i hi)).symm)
      have e2 : goodL (genG n X Y) = true := by
        unfold goodL genG
        rw [List.all_map, List.all_eq_true]
        exact fun i hi => hg i (List.mem_range.1 hi)
      refine ⟨e2, ?_, e1⟩
      unfold shOk
      rw [hst, hb, e1, e2]
      rfl)
    have HNO := Lib.hid (show bkQ n T = false → shOk n L = false from fun h => by unfold shOk; rw [hst, h]; rfl)
    have HLI := Lib.hid (fun (g B : Nat) (X Y : Nat → Int) (w' : World) (h : ∀ i, i < n → good (X i) (Y i) = true) (hr : RowC w' B g n (fbC X Y)) => list_any g n B (fbC X Y) X Y (fun i hi => by
      have hz := fbC_ok X Y n h i hi
      have hg := good_in (h i hi)
      exact ⟨FN_toInt hz.1 (by omega), FN_toInt hz.2 (by omega)⟩) hn1 hn32 w' hr)
    obtain ⟨q1, hq1⟩ : ∃ q, q = bkQ n T := ⟨_, rfl⟩
    rw [← hq1] at HBK HEND HNO
    obtain ⟨R, hR⟩ : ∃ L2, L2 = (if shOk n L then shL n L else []) := ⟨_, rfl⟩
    obtain ⟨q2, hq2⟩ : ∃ q, q = shOk n L := ⟨_, rfl⟩
    rw [← hR, ← hq2]
    have HR := Lib.hid (And.intro hR hq2)
    clear hf hq hv hok hqt hgl hn hL hfc hup hD hT hR hq2 hnn hq1 hre him hlen hst hsl
    go_enter Try.func35, Try.ntmps35
    go_wp2_with fail
    refine (HS.out).mono ?_
    rintro e w1 ⟨hb, ⟨_, g, rfl, hr⟩ | ⟨h, _⟩⟩
    case inr => cases h
    have HB1 := Lib.hid hb
    have HR1 := Lib.hid hr
    clear hb hr
    go_wp2_with fail
    refine (HBK.out _ _ _ HR1.out).mono ?_
    rintro e w2 ⟨g2, E, rfl, hr2, hg2, he2, hb2⟩
    have HB2 := Lib.hid (joins HB1.out hb2)
    obtain ⟨X, hX⟩ : ∃ X : Nat → Int, X = fun i => (E i).1 := ⟨_, rfl⟩
    obtain ⟨Y, hY⟩ : ∃ X : Nat → Int, X = fun i => (E i).2 := ⟨_, rfl⟩
    rw [← hX, ← hY] at hr2
    have hgd : ∀ i, i < n → good (X i) (Y i) = true := fun i hi => by rw [hX, hY]; exact hg2 i hi
    have HLL := Lib.hid (HLI.out g2 _ X Y w2 hgd hr2)
    cases q1 with
    | false =>
      have HE := Lib.hid (show q2 = false ∧ R = [] by
        have h := HNO.out rfl
        exact ⟨by rw [HR.out.2, h], by rw [HR.out.1, h]; rfl⟩)
      clear hr2 hg2 he2 hb2 hX hY hgd
      go_wp2_with fail
      go_returns
      exact ⟨_, by rw [HE.out.1]; rfl, by rw [HE.out.2]; exact OwnG.nil _ _, HB2.out⟩
    | true =>
      have hend := HEND.out X Y hgd rfl (fun i hi => by rw [hX, hY]; exact he2 rfl i hi)
      have HE := Lib.hid (show q2 = true ∧ R = genG n X Y by
        exact ⟨by rw [HR.out.2, hend.2.1], by rw [HR.out.1, hend.2.1, if_pos rfl, hend.2.2]⟩)
      rw [hend.1, if_pos rfl] at HLL
      clear hr2 hg2 he2 hb2 hX hY hgd hend
      go_wp2_with fail
      refine (HLL.out).mono ?_
      rintro e w3 ⟨v3, rfl, ho3, hb3⟩
      have HB3 := Lib.hid (joins HB2.out hb3)
      have HO3 := Lib.hid (ho3.mono HB2.out.size)
      clear ho3 hb3
      go_wp2_with fail
      go_returns
      exact ⟨_, by rw [HE.out.1]; rfl, by rw [HE.out.2]; exact HO3.out, HB3.out⟩

set_option maxRecDepth 100000 in
set_option maxHeartbeats 1000000 in
theorem itransformBack (v : Value) (l : List (Int × Int)) (w : World) (hv : IG w v l) : Calls Try.prog 15 #[v] w (MakesGB w (tbA l) (tbOk l)) := by
  have HT := Lib.hid (backOf_any 3 (dgW l.length) (tfSz l.length) v l (Or.inr rfl) (fun w => by rw [← tfZ_nat]; exact fits_conj _ w) (fun h => ⟨dg_pow h, by have := tfSz_cases h; omega, by have := tfSz_cases h; omega⟩) w hv (drL (-1) l)
    (fun h => genG_ext (fun i hi => by have e := tr_dr 1 (-1) (Or.inr ⟨rfl, rfl⟩) l h i hi; show drX (-1) l l.length i = (trF 1 4 (dgW l.length) (fun i => (gre l i, gim l i)) i).1; rw [e]) (fun i hi => by have e := tr_dr 1 (-1) (Or.inr ⟨rfl, rfl⟩) l h i hi; show drY (-1) l l.length i = (trF 1 4 (dgW l.length) (fun i => (gre l i, gim l i)) i).2; rw [e])))
  have e1 : tbOk l = ((tfSz l.length && goodL l) && shOk l.length (drL (-1) l)) := rfl
  have e2 : tbA l = if (tfSz l.length && goodL l) && shOk l.length (drL (-1) l) then shL l.length (drL (-1) l) else [] := rfl
  rw [← e2, ← e1] at HT
  obtain ⟨L, hL⟩ : ∃ L, L = tbA l := ⟨_, rfl⟩
  obtain ⟨q, hq⟩ : ∃ q, q = tbOk l := ⟨_, rfl⟩
  rw [← hL, ← hq] at HT ⊢
  clear e1 e2 hL hq hv
  go_enter Try.func15, Try.ntmps15
  go_wp2_with fail
  refine (HT.out).mono ?_
  rintro e w1 ⟨v1, rfl, ho, hb⟩
  have HO := Lib.hid ho
  have HB := Lib.hid hb
  clear ho hb
  go_wp2_with fail
  go_returns
  exact ⟨_, rfl, HO.out, HB.out⟩
set_option maxRecDepth 100000 in
set_option maxHeartbeats 1000000 in
theorem iwalshBack (v : Value) (l : List (Int × Int)) (w : World) (hv : IG w v l) : Calls Try.prog 20 #[v] w (MakesGB w (wbA l) (wbOk l)) := by
  have HT := Lib.hid (backOf_any 2 (lgW l.length) (waZ l.length) v l (Or.inl rfl) (fun w => fits_sign _ w) (fun h => ⟨wa_pow h, by have := wa_cases h; omega, by have := wa_cases h; omega⟩) w hv (waL l) (fun _ => rfl))
  have e1 : wbOk l = ((waZ l.length && goodL l) && shOk l.length (waL l)) := rfl
  have e2 : wbA l = if (waZ l.length && goodL l) && shOk l.length (waL l) then shL l.length (waL l) else [] := rfl
  rw [← e2, ← e1] at HT
  obtain ⟨L, hL⟩ : ∃ L, L = wbA l := ⟨_, rfl⟩
  obtain ⟨q, hq⟩ : ∃ q, q = wbOk l := ⟨_, rfl⟩
  rw [← hL, ← hq] at HT ⊢
  clear e1 e2 hL hq hv
  go_enter Try.func20, Try.ntmps20
  go_wp2_with fail
  refine (HT.out).mono ?_
  rintro e w1 ⟨v1, rfl, ho, hb⟩
  have HO := Lib.hid ho
  have HB := Lib.hid hb
  clear ho hb
  go_wp2_with fail
  go_returns
  exact ⟨_, rfl, HO.out, HB.out⟩
end Go.Proofs.Ytccjmigdebchiaa
