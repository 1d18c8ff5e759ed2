/- The program's NearestPhase, signals of points, decided points, DecideOf. -/
import Derived.Test.YtoehehaeanepmabINr
import Derived.Test.YtoehehaeanepmabISl
import Derived.Test.YtoehehaeanepmabISg
import Derived.Test.YtoehehaeanepmabMoR
namespace Go.Proofs.Ytoehehaeanepmab
set_option maxRecDepth 100000
open Go.RowKit

theorem fb_ok (x : Int) (h : -1000000 ≤ x ∧ x ≤ 1000000) : FK .f32 (fb x) x := by
  have ht : topF .f32 = 16777216 := by decide
  exact FN_ofInt .f32 x (by rw [ht]; omega)
/-! ### signals -/
set_option maxRecDepth 100000 in
set_option maxHeartbeats 2000000 in
theorem pointsFrom_any (v : Value) (l : List (Int × Int)) (w : World) (hv : IG w v l) (hlen : l.length ≤ 1048576) : Calls Try.prog 42 #[v] w (MakesC w l.length (fbC (gre l) (gim l)) (sgOk l)) := by
  obtain ⟨i0, hi, hz0, hz1, hz2⟩ := info_parts infoC
  have hsg : sgOk l = (decide (l.length ≤ 48) && goodL l) := rfl
  have HIV := Lib.hid (listIfValid_any v l w hv)
  obtain ⟨a, cap, hvs⟩ := hv.slice
  subst hvs
  cases hg : goodL l with
  | false =>
    rw [hsg, hg, Bool.and_false]
    rw [hg, if_neg Bool.false_ne_true] at HIV
    obtain ⟨n, hn⟩ : ∃ n, n = l.length := ⟨_, rfl⟩
    rw [← hn] at HIV ⊢
    clear hsg hg hv hn hlen
    go_enter Try.func42, Try.ntmps42
    go_wp2_with fail
    refine (HIV.out).mono ?_
    rintro e w1 ⟨rfl, hb⟩
    go_wp2_with fail
    go_returns
    exact ⟨hb, Or.inr ⟨rfl, rfl⟩⟩
  | true =>
    rw [hg, if_pos rfl] at HIV
    by_cases h48 : l.length ≤ 48
    · rw [hsg, hg, decide_eq_true h48]
      have HV := Lib.hid hv
      obtain ⟨D, hD⟩ : ∃ D, D = fbC (gre l) (gim l) := ⟨_, rfl⟩
      rw [← hD]
      have HD := Lib.hid hD
      obtain ⟨n, hn⟩ : ∃ n, n = l.length := ⟨_, rfl⟩
      rw [← hn] at HIV HV h48 ⊢
      have HN := Lib.hid hn
      have hn48 : (n : Int) ≤ 48 := by omega
      clear hsg hg hv hn hD hlen
      go_enter Try.func42, Try.ntmps42
      go_wp2_with fail
      refine (HIV.out).mono ?_
      rintro e w1 ⟨rfl, hb⟩
      have HB1 := Lib.hid hb
      have hs1 := hb.size
      clear hb
      go_wp2_with (at_make; refine wpList_make_full _ rfl _ _ 57 rfl w1.heap.size 61 i0 (.complex .f32 0 0) 1 Try.underlying57 hi hz0 hz1 _ _ _ _ n rfl rfl rfl rfl ?b2 ?b3 (Nat.le_refl _) ?_)
      case b2 => rw [hz2]; omega
      case b3 => unfold maxLen; omega
      intro w0 hown0 hgrow0
      have hrow0 : RowC w0 w.heap.size w1.heap.size n (upC 0 D) := by
        unfold RowC
        rw [upC_zero, ← cx_zeros]
        exact rowMono (by simpa using hown0) hs1
      have HB0 := Lib.hid (HB1.out.trans (((Below.refl w1.heap.size w1).grown hgrow0 (Nat.le_refl _) (fun k h => by cases h)).mono hs1))
      have HR0 := Lib.hid hrow0
      clear hown0 hgrow0 hrow0
      obtain ⟨g, hg⟩ : ∃ g, g = w1.heap.size := ⟨_, rfl⟩
      rw [← hg] at HR0 hs1 ⊢
      clear hg
      go_wp2_with fail
      go_loopw [26] (fun i wr => ∃ k : Nat, k ≤ n ∧ i = .int .i64 k ∧ RowC wr w.heap.size g n (upC k D) ∧ Below w.heap.size w wr) (fun i _ => n - (intOf i).toNat)
      case atStart => exact ⟨0, Nat.zero_le _, rfl, HR0.out, HB0.out⟩
      case round =>
        obtain ⟨k, hk, rfl, hrow, hbel⟩ := hrel
        have HB := Lib.hid hbel
        have HR := Lib.hid hrow
        by_cases hlt : k < n
        · have hltL := HN.out ▸ hlt
          rcases HV.out.below hbel with ⟨h0', _⟩ | ⟨_, b, off, cap', hveq, _, hc⟩
          · rw [h0'] at hltL; exact absurd hltL (Nat.not_lt_zero _)
          simp only [Value.slice.injEq] at hveq
          obtain ⟨rfl, hnn, rfl⟩ := hveq
          clear hnn
          have c1 := (hc k hltL).1
          have c2 := (hc k hltL).2
          have h0 : (0 : Int) ≤ (k : Int) := by omega
          have h1 : (k : Int) < (n : Int) := by omega
          obtain ⟨x, hx⟩ : ∃ x, x = gre l k := ⟨_, rfl⟩
          obtain ⟨y, hy⟩ : ∃ y, y = gim l k := ⟨_, rfl⟩
          rw [← hx] at c1
          rw [← hy] at c2
          have HXY := Lib.hid (show D k = (fb x, fb y) by rw [HD.out, hx, hy]; rfl)
          have HGV := Lib.hid (gaussValue_any x y)
          obtain ⟨b1, hb1⟩ : ∃ b1, b1 = fb x := ⟨_, rfl⟩
          obtain ⟨b2, hb2⟩ : ∃ b2, b2 = fb y := ⟨_, rfl⟩
          rw [← hb1, ← hb2] at HGV HXY
          clear hx hy hltL hb1 hb2 hc hrow hbel
          go_wp2_with fail
          refine (HGV.out _).mono ?_
          rintro e w3 ⟨rfl, hb⟩
          have HB3 := Lib.hid (joins (belowa HB.out _) hb)
          have hR3 := (RowC.below HR.out (belowa (Below.refl _ _) _)).below hb
          have HR3 := Lib.hid hR3
          have c3 := hR3.cell k hlt
          rw [show upC k D k = (0, 0) from if_neg (Nat.lt_irrefl _)] at c3
          have f1 := World.ownsRow.frozenAt hR3 k
          have hst := @store_complex Try.prog
          clear hb hR3 c1 c2
          go_wp2_with fail
          go_roundw
          case rel =>
            have hs := HR3.out.set k (D k)
            rw [upC_set] at hs
            rw [HXY.out] at hs
            exact ⟨k + 1, by omega, by go_num, hs, belows HB3.out hs1 _⟩
          case measure => simp [intOf]; omega
        · obtain rfl : k = n := by omega
          clear hrow hbel
          go_wp2_with fail
          go_returns
          refine ⟨HB.out, Or.inl ⟨rfl, g, rfl, ?_⟩⟩
          have := HR.out
          unfold RowC at this
          rw [upC_all] at this
          exact this
    · rw [hsg, decide_eq_false h48, Bool.false_and]
      obtain ⟨n, hn⟩ : ∃ n, n = l.length := ⟨_, rfl⟩
      rw [← hn] at HIV h48 ⊢
      have hn48 : (48 : Int) < (n : Int) := by omega
      clear hsg hg hv hn hlen h48
      go_enter Try.func42, Try.ntmps42
      go_wp2_with fail
      refine (HIV.out).mono ?_
      rintro e w1 ⟨rfl, hb⟩
      go_wp2_with fail
      go_returns
      exact ⟨hb, Or.inr ⟨rfl, rfl⟩⟩

/-! ### decided -/
/-- The numbers from a place of a block on. -/
def CxAt (w : World) (g o m : Nat) (C : Nat → Nat × Nat) : Prop := g < w.heap.size ∧ ∀ i, i < m → w.cell? ⟨g, o + i, none⟩ = some (.complex .f32 (C i).1 (C i).2)
theorem CxAt.below {w w' : World} {g o m : Nat} {C : Nat → Nat × Nat} (h : CxAt w g o m C) (hb : Below w.heap.size w w') : CxAt w' g o m C := ⟨Nat.lt_of_lt_of_le h.1 hb.size, fun i hi => keepc hb (h.2 i hi)⟩
theorem RowC.at {w : World} {B g n : Nat} {C : Nat → Nat × Nat} (h : RowC w B g n C) (o m : Nat) (hm : o + m ≤ n) : CxAt w g o m (fun i => C (o + i)) := ⟨h.lt.2, fun i hi => h.cell (o + i) (by omega)⟩
set_option maxRecDepth 100000 in
set_option maxHeartbeats 2000000 in
theorem decided_any (g o m c : Nat) (C : Nat → Nat × Nat) (X Y : Nat → Int) (hm : m ≤ 48) (hz : CZ C X Y m) (hb : ∀ i, i < m → good (X i) (Y i) = true) (w : World) (hc : CxAt w g o m C) :
    Calls Try.prog 48 #[.slice (some ⟨g, o, none⟩) m c] w (MakesB w (dcL X Y m) (dcN X Y m)) := by
  obtain ⟨i0, hi, hz0, hz1, hz2⟩ := info_parts infoInt
  have HNE := Lib.hid (fun (i : Nat) (hi : i < m) => nearest_any (hz i hi).1 (hz i hi).2 (good_in (hb i hi)).1 (good_in (hb i hi)).2)
  have HDS := Lib.hid (fun k => dcN_succ X Y k)
  have HDN := Lib.hid (fun k hk h => @dcN_no X Y k m hk h)
  obtain ⟨T, hT⟩ : ∃ T, T = dcT X Y := ⟨_, rfl⟩
  have HT := Lib.hid hT
  have HL1 := Lib.hid (show dcN X Y m = true → dcL X Y m = gen m T from fun h => by unfold dcL; rw [h, hT]; rfl)
  have HL0 := Lib.hid (show dcN X Y m = false → dcL X Y m = [] from fun h => by unfold dcL; rw [h]; rfl)
  obtain ⟨L, hL⟩ : ∃ L, L = dcL X Y m := ⟨_, rfl⟩
  obtain ⟨q, hq⟩ : ∃ q, q = dcN X Y m := ⟨_, rfl⟩
  rw [← hL, ← hq] at HL1 HL0
  rw [← hL, ← hq]
  have HQ := Lib.hid hq
  have HC := Lib.hid hc
  have hm48 : (m : Int) ≤ 48 := by omega
  clear hT hz hb hc hL hq
  go_enter Try.func48, Try.ntmps48
  go_wp2_with (at_make; refine wpList_make_full _ rfl _ _ 22 rfl w.heap.size 3 i0 (.int .i64 0) 1 Try.underlying22 hi hz0 hz1 _ _ _ _ m rfl rfl rfl rfl ?b2 ?b3 (Nat.le_refl _) ?_)
  case b2 => rw [hz2]; omega
  case b3 => unfold maxLen; omega
  intro w0 hown0 hgrow0
  rw [made_zeros] at hown0
  have HO0 := Lib.hid (RowI.made T (by simpa using hown0))
  have HB0 := Lib.hid ((Below.refl w.heap.size w).grown hgrow0 (Nat.le_refl _) (fun k h => by cases h))
  clear hown0 hgrow0
  obtain ⟨h, hg⟩ : ∃ g, g = w.heap.size := ⟨_, rfl⟩
  have HG := Lib.hid hg
  rw [← hg] at HO0 ⊢
  clear hg
  go_wp2_with fail
  go_loopw [14, 5, 6, 7, 8] (fun i _ _ _ _ wr => ∃ j : Nat, j ≤ m ∧ i = .int .i64 j ∧ dcN X Y j = true ∧ RowI wr w.heap.size h m (upI j T) ∧ Below w.heap.size w wr) (fun i _ _ _ _ _ => m - (intOf i).toNat)
  case atStart => exact ⟨0, Nat.zero_le _, rfl, rfl, HG.out ▸ HO0.out, HB0.out⟩
  case round =>
    obtain ⟨j, hj, rfl, hdc, hown, hbel⟩ := hrel
    by_cases hlt : j < m
    · have c1 := (HC.out.below hbel).2 j hlt
      have HN := Lib.hid (HNE.out j hlt)
      have hds := HDS.out j
      rw [hdc, Bool.true_and] at hds
      have hdn := HDN.out j hlt
      have hgj : T j = nrV (X j) (Y j) := by rw [HT.out]; rfl
      obtain ⟨p1, hp1⟩ : ∃ p, p = (C j).1 := ⟨_, rfl⟩
      obtain ⟨p2, hp2⟩ : ∃ p, p = (C j).2 := ⟨_, rfl⟩
      obtain ⟨z, hz⟩ : ∃ z, z = nrV (X j) (Y j) := ⟨_, rfl⟩
      obtain ⟨r, hr⟩ : ∃ r, r = nrB (X j) (Y j) := ⟨_, rfl⟩
      rw [← hp1, ← hp2] at c1 HN
      rw [← hz, ← hr] at HN
      rw [← hz] at hgj
      rw [← hr] at hds hdn
      have HGJ := Lib.hid hgj
      have HDS1 := Lib.hid hds
      have HDN1 := Lib.hid hdn
      have HO := Lib.hid hown
      have HB := Lib.hid hbel
      have h0 : (0 : Int) ≤ (j : Int) := by omega
      have h1 : (j : Int) < (m : Int) := by omega
      have hjm := hlt
      clear hown hbel hds hdn hgj hp1 hp2 hz hr hdc
      cases r with
      | true =>
        go_wp2_with fail
        refine (HN.out _).mono ?_
        rintro e w2 ⟨rfl, hb⟩
        have hR2 := HO.out.below hb
        have HO2 := Lib.hid hR2
        have HB2 := Lib.hid (joins HB.out hb)
        have hv1 := hR2.cell j hjm
        rw [show upI j T j = 0 from if_neg (Nat.lt_irrefl _)] at hv1
        have hfz := hR2.frozen j
        clear hb hR2 c1
        go_wp2_with fail
        go_roundw
        case rel =>
          have hs := HO2.out.set hjm
          rw [HGJ.out] at hs
          exact ⟨j + 1, by omega, by go_num, HDS1.out, hs, belows HB2.out (Nat.le_of_eq HG.out.symm) _⟩
        case measure => simp [intOf]; omega
      | false =>
        have HF := Lib.hid (show q = false ∧ L = [] from by
          have h1 := HDN1.out rfl
          have h2 : q = false := by rw [HQ.out]; exact h1
          exact ⟨h2, HL0.out h2⟩)
        go_wp2_with fail
        refine (HN.out _).mono ?_
        rintro e w2 ⟨rfl, hb⟩
        have HB2 := Lib.hid (joins HB.out hb)
        clear hb
        go_wp2_with fail
        go_returns
        refine ⟨_, by rw [HF.out.1]; rfl, ?_, HB2.out⟩
        rw [HF.out.2]
        exact World.ownsRow_nil _ _ _ _
    · obtain rfl : j = m := by omega
      have HO := Lib.hid hown
      have HB := Lib.hid hbel
      have HF := Lib.hid (show q = true ∧ L = gen j T from by
        have h2 : q = true := by rw [HQ.out]; exact hdc
        exact ⟨h2, HL1.out h2⟩)
      clear hown hbel hdc
      go_wp2_with fail
      go_returns
      refine ⟨_, by rw [HF.out.1]; rfl, ?_, HB.out⟩
      rw [HF.out.2]
      exact HO.out.own

end Go.Proofs.Ytoehehaeanepmab
