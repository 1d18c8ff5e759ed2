/- The program's signals out of lists of Gaussian numbers: gaussValue, signalOf. -/
import Derived.Test.YtccjmigdebchiaaSg
namespace Go.Proofs.Ytccjmigdebchiaa
set_option maxRecDepth 100000
open Go.RowKit

def fb (x : Int) : Nat := floatOfInt .f32 x
set_option maxHeartbeats 1000000 in
theorem gaussValue_any (x y : Int) (w : World) : Calls Try.prog 57 #[.agg #[.int .i64 x, .int .i64 y]] w (Ret w (.complex .f32 (fb x) (fb y))) := by
  go_enter Try.func57, Try.ntmps57
  go_wp2
  go_returns
  exact ⟨rfl, by go_grown⟩
def fbC (X Y : Nat → Int) : Nat → Nat × Nat := fun i => (fb (X i), fb (Y i))
theorem fbC_ok (X Y : Nat → Int) (n : Nat) (h : ∀ i, i < n → good (X i) (Y i) = true) : CZ (fbC X Y) X Y n := fun i hi => by
  have := good_in (h i hi)
  have ht : topF .f32 = 16777216 := by decide
  exact ⟨FN_ofInt .f32 _ (by rw [ht]; omega), FN_ofInt .f32 _ (by rw [ht]; omega)⟩
/-- The first k numbers are there, the others zero. -/
def upC (k : Nat) (D : Nat → Nat × Nat) : Nat → Nat × Nat := fun i => if i < k then D i else (0, 0)
theorem upC_set (k : Nat) (D : Nat → Nat × Nat) : setC (upC k D) k (D k) = upC (k + 1) D := by
  funext i
  unfold setC upC
  by_cases e : i = k
  · subst e; simp
  · rw [if_neg e]
    by_cases h : i < k
    · rw [if_pos h, if_pos (by omega)]
    · rw [if_neg h, if_neg (by omega)]
theorem upC_zero (D : Nat → Nat × Nat) : upC 0 D = fun _ => (0, 0) := by
  funext i; unfold upC; rw [if_neg (Nat.not_lt_zero _)]
theorem upC_all (n : Nat) (D : Nat → Nat × Nat) : cxL n (upC n D) = cxL n D := cxL_ext (fun i h => by unfold upC; rw [if_pos h])
/-- A call that makes a signal of n numbers, if it is well. -/
def MakesC (w : World) (n : Nat) (C : Nat → Nat × Nat) (ok : Bool) (e : Ending) (w' : World) : Prop :=
  Below w.heap.size w w' ∧ ((ok = true ∧ ∃ g, e = .returned (.tuple #[.slice (some ⟨g, 0, none⟩) n n, .bool true]) ∧ RowC w' w.heap.size g n C) ∨ (ok = false ∧ e = .returned (.tuple #[.slice none 0 0, .bool false])))

set_option maxRecDepth 100000 in
set_option maxHeartbeats 2000000 in
theorem signalOf_any (wv : Int) (q : Bool) (v : Value) (l : List (Int × Int)) (hf : ∀ w, Calls Try.prog 55 #[.int .i64 wv, .int .i64 l.length] w (Pure w (.bool q))) (hq : q = true → 1 ≤ l.length ∧ l.length ≤ 32) (w : World) (hv : IG w v l) :
    Calls Try.prog 51 #[.int .i64 wv, v] w (MakesC w l.length (fbC (gre l) (gim l)) (q && goodL l)) := by
  obtain ⟨i0, hi, hz0, hz1, hz2⟩ := info_parts infoC
  obtain ⟨n, hn⟩ : ∃ n, n = l.length := ⟨_, rfl⟩
  rw [← hn] at hf hq ⊢
  have HF := Lib.hid hf
  obtain ⟨a, cap, hvs⟩ := hv.slice
  cases q with
  | false =>
    subst hvs
    rw [← hn]
    clear hv hn hf hq
    go_enter Try.func51, Try.ntmps51
    go_wp2_with fail
    refine (HF.out _).mono ?_
    rintro e w1 ⟨rfl, rfl⟩
    go_wp2_with fail
    go_returns
    exact ⟨Below.refl _ _, Or.inr ⟨rfl, rfl⟩⟩
  | true =>
    have hq := hq rfl
    rw [Bool.true_and]
    rcases hv with ⟨rfl, _⟩ | ⟨_, b, off, cap', rfl, hm, hc⟩
    · simp at hn; omega
    · obtain ⟨X, hX⟩ : ∃ X, X = gre l := ⟨_, rfl⟩
      obtain ⟨Y, hY⟩ : ∃ X, X = gim l := ⟨_, rfl⟩
      rw [← hn, ← hX, ← hY] at hc
      rw [← hn, ← hX, ← hY]
      obtain ⟨D, hD⟩ : ∃ D, D = fbC X Y := ⟨_, rfl⟩
      rw [← hD]
      have HD := Lib.hid hD
      have HC := Lib.hid hc
      have HN := Lib.hid hn
      have HX := Lib.hid (And.intro hX hY)
      obtain ⟨hq1, hq2⟩ := hq
      clear hc hm hn hX hY hvs hf hD
      go_enter Try.func51, Try.ntmps51
      go_wp2_with fail
      refine (HF.out _).mono ?_
      rintro e w1 ⟨rfl, rfl⟩
      go_wp2_with (at_make; refine wpList_make_full _ rfl _ _ 78 rfl w.heap.size 47 i0 (.complex .f32 0 0) 1 Try.underlying78 hi hz0 hz1 _ _ _ _ n rfl rfl rfl rfl ?b2 ?b3 (Nat.le_refl _) ?_)
      case b2 => rw [hz2]; omega
      case b3 => unfold maxLen; omega
      intro w0 hown0 hgrow0
      have hrow0 : RowC w0 w.heap.size w.heap.size n (upC 0 D) := by
        unfold RowC
        rw [upC_zero, ← cx_zeros]
        simpa using hown0
      have HB0 := Lib.hid (show Below w.heap.size w w0 from (Below.refl _ _).grown hgrow0 (Nat.le_refl _) (fun k h => by cases h))
      have HR0 := Lib.hid hrow0
      clear hown0 hgrow0 hrow0
      go_wp2_with fail
      go_loopw [19] (fun i wr => ∃ k : Nat, k ≤ n ∧ i = .int .i64 k ∧ goodL (l.take k) = true ∧ RowC wr w.heap.size w.heap.size n (upC k D) ∧ Below w.heap.size w wr) (fun i _ => n - (intOf i).toNat)
      case atStart => exact ⟨0, Nat.zero_le _, rfl, rfl, HR0.out, HB0.out⟩
      case round =>
        obtain ⟨k, hk, rfl, hall, hrow, hbel⟩ := hrel
        have HA := Lib.hid hall
        have HB := Lib.hid hbel
        have HR := Lib.hid hrow
        clear hall hbel hrow
        by_cases hlt : k < n
        · have hltL := HN.out ▸ hlt
          have c1 := keepc HB.out (HC.out k hlt).1
          have c2 := keepc HB.out (HC.out k hlt).2
          have h0 : (0 : Int) ≤ (k : Int) := by omega
          have h1 : (k : Int) < (n : Int) := by omega
          have hAt := goodL_take_succ l k hltL HA.out
          have hNo := goodL_false l k hltL
          rw [← HX.out.1, ← HX.out.2] at hAt hNo
          obtain ⟨x, hx⟩ : ∃ x, x = X k := ⟨_, rfl⟩
          obtain ⟨y, hy⟩ : ∃ y, y = Y k := ⟨_, rfl⟩
          rw [← hx] at c1 hAt hNo
          rw [← hy] at c2 hAt hNo
          have HXY := Lib.hid (show D k = (fb x, fb y) by rw [HD.out, hx, hy]; rfl)
          have HG := Lib.hid (igood x y)
          have HV := Lib.hid (gaussValue_any x y)
          have HAT := Lib.hid hAt
          have HNO := Lib.hid hNo
          obtain ⟨b1, hb1⟩ : ∃ b1, b1 = fb x := ⟨_, rfl⟩
          obtain ⟨b2, hb2⟩ : ∃ b2, b2 = fb y := ⟨_, rfl⟩
          rw [← hb1, ← hb2] at HV HXY
          clear hx hy hAt hNo hltL hb1 hb2
          cases hg : good x y with
          | true =>
            rw [hg] at HG HAT
            go_wp2_with fail
            refine (HG.out _).mono ?_
            rintro e w2 ⟨rfl, hb⟩
            have HB2 := Lib.hid (joins (belowa HB.out _) hb)
            have HR2 := Lib.hid ((RowC.below HR.out (belowa (Below.refl _ _) _)).below hb)
            have d1 := keepc hb (cell_new0 wr (.int .i64 x) (.int .i64 y) 25)
            have d2 := keepc hb (cell_new1 wr (.int .i64 x) (.int .i64 y) 25)
            clear hb c1 c2 hg
            go_wp2_with fail
            refine (HV.out _).mono ?_
            rintro e w3 ⟨rfl, hb⟩
            have HB3 := Lib.hid (joins HB2.out hb)
            have hR3 := HR2.out.below hb
            have HR3 := Lib.hid hR3
            have c1 := hR3.cell k hlt
            rw [show upC k D k = (0, 0) from if_neg (Nat.lt_irrefl _)] at c1
            have f1 := World.ownsRow.frozenAt hR3 k
            have hst := @store_complex Try.prog
            clear hb hR3 d1 d2
            go_wp2_with fail
            go_roundw
            case rel =>
              have hs := HR3.out.set k (D k)
              rw [upC_set] at hs
              rw [HXY.out] at hs
              exact ⟨k + 1, by omega, by go_num, HAT.out trivial, hs, belows HB3.out (Nat.le_refl _) _⟩
            case measure => simp [intOf]; omega
          | false =>
            rw [hg] at HG HNO
            go_wp2_with fail
            refine (HG.out _).mono ?_
            rintro e w2 ⟨rfl, hb⟩
            have HB2 := Lib.hid (joins (belowa HB.out _) hb)
            clear hb
            go_wp2_with fail
            go_returns
            exact ⟨HB2.out, Or.inr ⟨HNO.out trivial, rfl⟩⟩
        · obtain rfl : k = n := by omega
          have hh := HA.out
          rw [List.take_of_length_le (by rw [← HN.out]; omega)] at hh
          have HA2 := Lib.hid hh
          clear hh
          go_wp2_with fail
          go_returns
          refine ⟨HB.out, Or.inl ⟨HA2.out, w.heap.size, rfl, ?_⟩⟩
          have := HR.out
          unfold RowC at this
          rw [upC_all] at this
          exact this
end Go.Proofs.Ytccjmigdebchiaa
