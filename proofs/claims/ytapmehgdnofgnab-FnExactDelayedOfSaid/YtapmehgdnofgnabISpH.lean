/- The program's heardFrom. -/
import Derived.Test.YtapmehgdnofgnabIMch
import Derived.Test.YtapmehgdnofgnabSp
import Derived.Test.YtapmehgdnofgnabICode
import Derived.Test.YtapmehgdnofgnabISls
import Derived.Test.YtapmehgdnofgnabGau
namespace Go.Proofs.Ytapmehgdnofgnab
set_option maxRecDepth 100000
open Go.RowKit

theorem fbC_in (l : List (Int × Int)) (h : hdOk l = true) : CZ (fbC (gre l) (gim l)) (gre l) (gim l) l.length := fbC_ok (gre l) (gim l) l.length (fun i hi => goodL_at (hdOk_good h) i hi)
/-- The value is the signal of a list, made above B. -/
def HeardAt (l : List (Int × Int)) (B : Nat) (v : Value) (w : World) : Prop := ∃ g, v = .slice (some ⟨g, 0, none⟩) l.length l.length ∧ RowC w B g l.length (fbC (gre l) (gim l))
set_option maxRecDepth 100000 in
set_option maxHeartbeats 4000000 in
theorem heardFrom_any (v : Value) (l : List (Int × Int)) (w : World) (hv : IG w v l) (hlen : l.length ≤ 1048576) : Calls Try.prog 41 #[v] w (Tries w (kOf (hdOk l)) (HeardAt l)) := by
  obtain ⟨i0, hi, hz0, hz1, hz2⟩ := info_parts infoC8
  have hd : hdOk l = (decide (l.length ≤ 64) && goodL l) := rfl
  have HV := Lib.hid hv
  obtain ⟨a, cap, hvs⟩ := hv.slice
  subst hvs
  by_cases h64 : l.length ≤ 64
  case neg =>
    rw [hd, decide_eq_false h64, Bool.false_and, kOf_false]
    obtain ⟨n, hn⟩ : ∃ n, n = l.length := ⟨_, rfl⟩
    rw [← hn] at h64 ⊢
    have hi : ¬ (n : Int) ≤ 64 := by omega
    clear hd hv HV hn hlen h64 hz0 hz1 hz2
    go_enter Try.func41, Try.ntmps41
    go_wp2_with fail
    refine (require_no _).mono ?_
    rintro e w' ⟨rfl, rfl⟩
    exact ⟨rfl, Below.refl _ _, Or.inr ⟨by decide, rfl⟩⟩
  have h64i : (n : Nat) → n = l.length → (n : Int) ≤ 64 := fun n hn => by omega
  rw [hd, decide_eq_true h64, Bool.true_and]
  have HYES := Lib.hid (fun (h : ∀ i, i < l.length → good (gre l i) (gim l i) = true) => goodL_all8 l h)
  have HNO := Lib.hid (fun i hi h => goodL_false l i hi h)
  obtain ⟨D, hD⟩ : ∃ D, D = fbC (gre l) (gim l) := ⟨_, rfl⟩
  have HD := Lib.hid hD
  obtain ⟨q, hq⟩ : ∃ q, q = goodL l := ⟨_, rfl⟩
  rw [← hq] at HYES HNO ⊢
  have HEN := Lib.hid (show ∀ B w g, RowC w B g l.length D → HeardAt l B (.slice (some ⟨g, 0, none⟩) l.length l.length) w from fun B w g h => ⟨g, rfl, by rw [← hD]; exact h⟩)
  obtain ⟨n, hn⟩ : ∃ n, n = l.length := ⟨_, rfl⟩
  have HN := Lib.hid hn
  have hn64 := h64i n hn
  rw [← hn] at HV HYES HNO HEN h64 ⊢
  clear hd hv hn hlen hD hq h64i
  go_enter Try.func41, Try.ntmps41
  go_wp2_with fail
  refine (require_yes _).mono ?_
  rintro e w' ⟨rfl, rfl⟩
  go_wp2_with (at_make; refine wpList_make_full _ rfl _ _ 60 rfl w.heap.size 85 i0 (.complex .f32 0 0) 1 Try.underlying60 hi hz0 hz1 _ _ _ _ n rfl rfl rfl rfl ?b2 ?b3 (Nat.le_refl _) ?_)
  case b2 => rw [hz2]; omega
  case b3 => unfold maxLen; omega
  intro w0 hown0 hgrow0
  have hrow0 : RowC w0 w.heap.size w.heap.size n (upto 0 D) := by
    unfold RowC
    rw [upto_zero, ← cx_zeros]
    simpa using hown0
  have HB0 := Lib.hid ((Below.refl w.heap.size w).grown hgrow0 (Nat.le_refl _) (fun k h => by cases h))
  have HR0 := Lib.hid hrow0
  clear hown0 hgrow0 hrow0
  obtain ⟨g, hg⟩ : ∃ g, g = w.heap.size := ⟨_, rfl⟩
  have hge : w.heap.size ≤ g := by omega
  rw [← hg] at HR0 ⊢
  rw [show RowC w0 g g n (upto 0 D) = RowC w0 w.heap.size g n (upto 0 D) by rw [hg]] at HR0
  clear hg
  go_wp2_with fail
  go_loopw [15] (fun i wr => ∃ k : Nat, k ≤ n ∧ i = .int .i64 k ∧ RowC wr w.heap.size g n (upto k D) ∧ Below w.heap.size w wr ∧ ∀ j, j < k → good (gre l j) (gim l j) = true) (fun i _ => n - (intOf i).toNat)
  case atStart => exact ⟨0, Nat.zero_le _, rfl, HR0.out, HB0.out, fun j hj => absurd hj (Nat.not_lt_zero _)⟩
  case round =>
    obtain ⟨k, hk, rfl, hrow, hbel, hgd⟩ := hrel
    have HB := Lib.hid hbel
    have HR := Lib.hid hrow
    have HG := Lib.hid hgd
    clear hgd
    by_cases hlt : k < n
    · have hltL := HN.out ▸ hlt
      rcases HV.out.below hbel with ⟨h0', _⟩ | ⟨_, b, off, cap', hveq, _, hc⟩
      · rw [h0'] at hltL; exact absurd hltL (Nat.not_lt_zero _)
      simp only [Value.slice.injEq] at hveq
      obtain ⟨rfl, hnn, rfl⟩ := hveq
      clear hnn
      have c1 := (hc k hltL).1
      have c2 := (hc k hltL).2
      have h0 : (0 : Int) ≤ (k : Int) := by omega
      have h1 : (k : Int) < (n : Int) := by omega
      have hno := HNO.out k hlt
      have hgn : ∀ (h : good (gre l k) (gim l k) = true) j, j < k + 1 → good (gre l j) (gim l j) = true := fun h j hj => by
        rcases Nat.lt_succ_iff_lt_or_eq.1 hj with h2 | h2
        · exact HG.out j h2
        · rw [h2]; exact h
      obtain ⟨x, hx⟩ : ∃ x, x = gre l k := ⟨_, rfl⟩
      obtain ⟨y, hy⟩ : ∃ y, y = gim l k := ⟨_, rfl⟩
      rw [← hx] at c1
      rw [← hy] at c2
      rw [← hx, ← hy] at hno hgn
      have HXY := Lib.hid (show D k = (fb x, fb y) by rw [HD.out, hx, hy]; rfl)
      have HGV := Lib.hid (gaussValue_any x y)
      have HIG := Lib.hid (igood x y)
      have HGN := Lib.hid hgn
      obtain ⟨b1, hb1⟩ : ∃ b1, b1 = fb x := ⟨_, rfl⟩
      obtain ⟨b2, hb2⟩ : ∃ b2, b2 = fb y := ⟨_, rfl⟩
      rw [← hb1, ← hb2] at HGV HXY
      clear hx hy hltL hb1 hb2 hc hrow hbel hgn
      cases hgd : good x y with
      | false =>
        rw [hgd] at HIG
        have HQ := Lib.hid (hno hgd)
        clear hno hgd
        go_wp2_with fail
        refine (HIG.out _).mono ?_
        rintro e w3 ⟨rfl, hb⟩
        have HB3 := Lib.hid (joins (belowa HB.out _) hb)
        clear hb
        go_wp2_with fail
        refine (require_no _).mono ?_
        rintro e w' ⟨rfl, rfl⟩
        refine ⟨rfl, HB3.out, ?_⟩
        rw [HQ.out]
        exact Or.inr ⟨by decide, rfl⟩
      | true =>
        rw [hgd] at HIG
        have HGX := Lib.hid (HGN.out hgd)
        clear hno hgd
        go_wp2_with fail
        refine (HIG.out _).mono ?_
        rintro e w3 ⟨rfl, hb⟩
        have HB3 := Lib.hid (joins (belowa HB.out _) hb)
        have d1 := keepc hb (cell_new0 wr (.int .i64 x) (.int .i64 y) 26)
        have d2 := keepc hb (cell_new1 wr (.int .i64 x) (.int .i64 y) 26)
        have HR3 := Lib.hid ((RowC.below HR.out (belowa (Below.refl _ _) _)).below hb)
        clear hb c1 c2
        go_wp2_with fail
        refine (require_yes _).mono ?_
        rintro e w' ⟨rfl, rfl⟩
        go_wp2_with fail
        refine (HGV.out _).mono ?_
        rintro e w4 ⟨rfl, hb⟩
        have HB4 := Lib.hid (joins HB3.out hb)
        have hR4 := HR3.out.below hb
        have HR4 := Lib.hid hR4
        have c3 := hR4.cell k hlt
        rw [show upto k D k = (0, 0) from if_neg (Nat.lt_irrefl _)] at c3
        have f1 := World.ownsRow.frozenAt hR4 k
        have hst := @store_complex Try.prog
        clear hb hR4 d1 d2
        go_wp2_with fail
        go_roundw
        case rel =>
          have hs := HR4.out.set k (D k)
          rw [upto_set] at hs
          rw [HXY.out] at hs
          exact ⟨k + 1, by omega, by go_num, hs, belows HB4.out hge _, HGX.out⟩
        case measure => simp [intOf]; omega
    · obtain rfl : k = n := by omega
      have HQ := Lib.hid (HYES.out (fun i hi => HG.out i hi))
      clear hrow hbel
      go_wp2_with fail
      go_returns
      refine ⟨HB.out, Or.inl ⟨by rw [HQ.out]; rfl, _, rfl, HEN.out _ _ g ?_⟩⟩
      have := HR.out
      unfold RowC at this
      rw [upto_all] at this
      exact this
end Go.Proofs.Ytapmehgdnofgnab
