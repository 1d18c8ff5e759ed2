/- The model's clLeast, OrbitOf, LeastOf, AreEquivalent. The model's clHeads, CountClasses, ClassHeads, ClassEnergies. -/
import Derived.Test.YtcagiecgbjnefabSClO
import Derived.Test.YtcagiecgbjnefabClH
import Derived.Test.YtcagiecgbjnefabSEn
namespace Go.Proofs.Ytcagiecgbjnefab
set_option maxRecDepth 100000
section
open Go.RowKit

theorem OwnR.rowAt9 {w : World} {B g n cap : Nat} {ll : List (List Int)} (h : OwnR w B (.slice (some ⟨g, 0, none⟩) n cap) ll) (hn : n = ll.length) (i : Nat) (hi : i < ll.length) :
    ∃ u, w.cell? ⟨g, i, none⟩ = some u ∧ Own w B u (ll.getD i []) := by
  subst hn
  obtain ⟨rs, h, hr, -⟩ := h
  refine ⟨rs.getD i (.slice none 0 0), ?_, hr.own i hi⟩
  rw [h.cellAt i (by omega)]
  have : i < rs.length := by rw [hr.len]; exact hi
  simp [List.getD, this]
set_option maxRecDepth 100000 in
set_option maxHeartbeats 1000000 in
theorem clLeast_any (va : Value) (l : List Int) (w : World) (hva : IS w va l) (hs : isSeq l = true) (h15 : l.length ≤ 15) : Calls Try.prog 39 #[va] w (Makes w ((orL l 64).getD 0 [])) := by
  have HO := Lib.hid (clOrbit_any va l w hva hs h15)
  have HP := Lib.hid (orL_pos l 63)
  obtain ⟨L, hL⟩ : ∃ L, L = orL l 64 := ⟨_, rfl⟩
  rw [show orL l (63 + 1) = L from hL.symm] at HP
  rw [← hL] at HO ⊢
  clear hva hs h15 hL
  go_enter Try.func39, Try.ntmps39
  go_wp2_with fail
  refine (HO.out).mono ?_
  rintro e w1 ⟨v, rfl, ho, hb⟩
  have B1 := Lib.hid hb
  obtain ⟨g, cap, rfl, hg1, hg2⟩ := ho.shape HP.out
  obtain ⟨u, c1, hu⟩ := ho.rowAt9 rfl 0 HP.out
  have HU := Lib.hid hu
  have hp0 : (0 : Int) < ((L.length : Nat) : Int) := by have := HP.out; omega
  obtain ⟨m, hm⟩ : ∃ m, m = L.length := ⟨_, rfl⟩
  rw [← hm] at hp0 ⊢
  clear ho hb hg1 hg2 hu hm
  go_wp2_with fail
  go_returns
  exact ⟨_, rfl, HU.out, B1.out⟩
set_option maxHeartbeats 1000000 in
theorem sOrbitOf (va : Value) (l : List Int) (w : World) (hva : IS w va l) (hla : l.length ≤ 1048576) : Calls Try.prog 10 #[va] w (MakesRB w (orF l) (ranked l)) := by
  have HG := Lib.hid (clGood_any va l w hva hla)
  unfold orF
  cases hr : ranked l with
  | false =>
    rw [hr] at HG
    rw [if_neg (by decide)]
    clear hr hva
    go_enter Try.func10, Try.ntmps10
    go_wp2_with fail
    refine HG.out.mono ?_
    rintro e w1 ⟨rfl, hb⟩
    have B1 := Lib.hid hb
    clear hb
    go_wp2_with fail
    go_returns
    exact ⟨_, rfl, OwnR.nil _ _, B1.out⟩
  | true =>
    rw [hr] at HG
    rw [if_pos rfl]
    obtain ⟨hs, h15⟩ := ranked_seq hr
    have HO := Lib.hid (fun w' (h : Below w.heap.size w w') => clOrbit_any va l w' (hva.below h) hs h15)
    obtain ⟨L, hL⟩ : ∃ L, L = orL l 64 := ⟨_, rfl⟩
    rw [← hL] at HO ⊢
    clear hr hva hs h15 hL
    go_enter Try.func10, Try.ntmps10
    go_wp2_with fail
    refine HG.out.mono ?_
    rintro e w1 ⟨rfl, hb⟩
    have B1 := Lib.hid hb
    clear hb
    go_wp2_with fail
    refine (HO.out _ B1.out).mono ?_
    rintro e w2 ⟨v, rfl, ho, hb⟩
    have O2 := Lib.hid (ho.mono B1.out.size)
    have B2 := Lib.hid (joins B1.out hb)
    clear ho hb
    go_wp2_with fail
    go_returns
    exact ⟨_, rfl, O2.out, B2.out⟩
set_option maxHeartbeats 1000000 in
theorem sLeastOf (va : Value) (l : List Int) (w : World) (hva : IS w va l) (hla : l.length ≤ 1048576) : Calls Try.prog 18 #[va] w (MakesB w (lsF9 l) (ranked l)) := by
  have HG := Lib.hid (clGood_any va l w hva hla)
  unfold lsF9
  cases hr : ranked l with
  | false =>
    rw [hr] at HG
    rw [if_neg (by decide)]
    clear hr hva
    go_enter Try.func18, Try.ntmps18
    go_wp2_with fail
    refine HG.out.mono ?_
    rintro e w1 ⟨rfl, hb⟩
    have B1 := Lib.hid hb
    clear hb
    go_wp2_with fail
    go_returns
    exact ⟨_, rfl, World.ownsRow_nil _ _ _ _, B1.out⟩
  | true =>
    rw [hr] at HG
    rw [if_pos rfl]
    obtain ⟨hs, h15⟩ := ranked_seq hr
    have HO := Lib.hid (fun w' (h : Below w.heap.size w w') => clLeast_any va l w' (hva.below h) hs h15)
    obtain ⟨L, hL⟩ : ∃ L, L = (orL l 64).getD 0 [] := ⟨_, rfl⟩
    rw [← hL] at HO ⊢
    clear hr hva hs h15 hL
    go_enter Try.func18, Try.ntmps18
    go_wp2_with fail
    refine HG.out.mono ?_
    rintro e w1 ⟨rfl, hb⟩
    have B1 := Lib.hid hb
    clear hb
    go_wp2_with fail
    refine (HO.out _ B1.out).mono ?_
    rintro e w2 ⟨v, rfl, ho, hb⟩
    have O2 := Lib.hid (ho.mono B1.out.size)
    have B2 := Lib.hid (joins B1.out hb)
    clear ho hb
    go_wp2_with fail
    go_returns
    exact ⟨_, rfl, O2.out, B2.out⟩
set_option maxRecDepth 100000 in
set_option maxHeartbeats 2000000 in
theorem sAreEquivalent (va vb : Value) (l t : List Int) (w : World) (hva : IS w va l) (hvb : IS w vb t) (hla : l.length ≤ 1048576) (hlb : t.length ≤ 1048576) :
    Calls Try.prog 21 #[va, vb] w (Ret w (.tuple #[.bool (eqF9 l t), .bool (bothR l t)])) := by
  have HG := Lib.hid (clGood_any va l w hva hla)
  have HG2 := Lib.hid (fun w' (h : Below w.heap.size w w') => clGood_any vb t w' (hvb.below h) hlb)
  obtain ⟨pa, ca, rfl⟩ := hva.shape
  obtain ⟨pb, cb, rfl⟩ := hvb.shape
  cases hr : ranked l with
  | false =>
    have h0 : bothR l t = false := by unfold bothR; rw [hr]; rfl
    have h1 : eqF9 l t = false := by unfold eqF9; rw [h0]; rfl
    rw [h0, h1]
    rw [hr] at HG
    obtain ⟨n1, hn1⟩ : ∃ n, n = l.length := ⟨_, rfl⟩
    obtain ⟨n2, hn2⟩ : ∃ n, n = t.length := ⟨_, rfl⟩
    rw [← hn1] at HG ⊢
    rw [← hn2] at HG2 ⊢
    clear h0 h1 hr hva hvb hla hlb hn1 hn2
    go_enter Try.func21, Try.ntmps21
    go_wp2_with fail
    refine HG.out.mono ?_
    rintro e w1 ⟨rfl, hb⟩
    have B1 := Lib.hid hb
    clear hb
    go_wp2_with fail
    go_returns
    exact ⟨rfl, B1.out⟩
  | true =>
    rw [hr] at HG
    cases hr2 : ranked t with
    | false =>
      have h0 : bothR l t = false := by unfold bothR; rw [hr, hr2]; rfl
      have h1 : eqF9 l t = false := by unfold eqF9; rw [h0]; rfl
      rw [h0, h1]
      rw [hr2] at HG2
      obtain ⟨n1, hn1⟩ : ∃ n, n = l.length := ⟨_, rfl⟩
      obtain ⟨n2, hn2⟩ : ∃ n, n = t.length := ⟨_, rfl⟩
      rw [← hn1] at HG ⊢
      rw [← hn2] at HG2 ⊢
      clear h0 h1 hr hr2 hva hvb hla hlb hn1 hn2
      go_enter Try.func21, Try.ntmps21
      go_wp2_with fail
      refine HG.out.mono ?_
      rintro e w1 ⟨rfl, hb⟩
      have B1 := Lib.hid hb
      clear hb
      go_wp2_with fail
      refine (HG2.out _ B1.out).mono ?_
      rintro e w2 ⟨rfl, hb⟩
      have B2 := Lib.hid (joins B1.out hb)
      clear hb
      go_wp2_with fail
      go_returns
      exact ⟨rfl, B2.out⟩
    | true =>
      rw [hr2] at HG2
      have h0 : bothR l t = true := by unfold bothR; rw [hr, hr2]; rfl
      by_cases hlen : l.length = t.length
      · obtain ⟨hs, h15⟩ := ranked_seq hr
        obtain ⟨ht, h15t⟩ := ranked_seq hr2
        have h1 : eqF9 l t = decide ((orL l 64).getD 0 [] = (orL t 64).getD 0 []) := by unfold eqF9; rw [h0, decide_eq_true hlen, Bool.true_and, Bool.true_and]
        rw [h0, h1]
        have HL1 := Lib.hid (fun w' (h : Below w.heap.size w w') => clLeast_any _ l w' (hva.below h) hs h15)
        have HL2 := Lib.hid (fun w' (h : Below w.heap.size w w') => clLeast_any _ t w' (hvb.below h) ht h15t)
        obtain ⟨X, hX⟩ : ∃ X, X = (orL l 64).getD 0 [] := ⟨_, rfl⟩
        obtain ⟨Y, hY⟩ : ∃ X, X = (orL t 64).getD 0 [] := ⟨_, rfl⟩
        have hm1 : X.length = l.length := by rw [hX]; exact (least_in l hs).2
        have hm2 : Y.length = t.length := by rw [hY]; exact (least_in t ht).2
        rw [← hX] at HL1 ⊢
        rw [← hY] at HL2 ⊢
        have HS := Lib.hid (fun v v2 w (h1 : IS w v X) (h2 : IS w v2 Y) => l1Same_any v v2 X Y w h1 h2 (by rw [hm1]; omega) (by rw [hm2]; omega))
        obtain ⟨n, hn⟩ : ∃ n, n = l.length := ⟨_, rfl⟩
        rw [← hlen] at HG2 HL2 ⊢
        rw [← hn] at HG HG2 HL1 HL2 ⊢
        clear h0 h1 hr hr2 hva hvb hla hlb hlen hs ht h15 h15t hm1 hm2 hX hY hn
        go_enter Try.func21, Try.ntmps21
        go_wp2_with fail
        refine HG.out.mono ?_
        rintro e w1 ⟨rfl, hb⟩
        have B1 := Lib.hid hb
        clear hb
        go_wp2_with fail
        refine (HG2.out _ B1.out).mono ?_
        rintro e w2 ⟨rfl, hb⟩
        have B2 := Lib.hid (joins B1.out hb)
        clear hb
        go_wp2_with fail
        refine (HL1.out _ B2.out).mono ?_
        rintro e w3 ⟨v3, rfl, ho, hb⟩
        have O3 := Lib.hid ho
        have B3 := Lib.hid (joins B2.out hb)
        clear ho hb
        go_wp2_with fail
        refine (HL2.out _ B3.out).mono ?_
        rintro e w4 ⟨v4, rfl, ho, hb⟩
        have O4 := Lib.hid ho
        have O34 := Lib.hid (O3.out.below hb)
        have B4 := Lib.hid (joins B3.out hb)
        clear ho hb
        go_wp2_with fail
        refine (HS.out _ _ _ O34.out.is O4.out.is).mono ?_
        rintro e w5 ⟨rfl, hb⟩
        have B5 := Lib.hid (joins B4.out hb)
        clear hb
        go_wp2_with fail
        go_returns
        exact ⟨rfl, B5.out⟩
      · have h1 : eqF9 l t = false := by unfold eqF9; rw [decide_eq_false hlen]; simp
        rw [h0, h1]
        have hne : (((l.length : Int)) == (t.length : Int)) = false := by simpa using (show ((l.length : Int)) ≠ (t.length : Int) by omega)
        obtain ⟨n1, hn1⟩ : ∃ n, n = l.length := ⟨_, rfl⟩
        obtain ⟨n2, hn2⟩ : ∃ n, n = t.length := ⟨_, rfl⟩
        rw [← hn1] at HG hne ⊢
        rw [← hn2] at HG2 hne ⊢
        clear h0 h1 hr hr2 hva hvb hla hlb hn1 hn2 hlen
        go_enter Try.func21, Try.ntmps21
        go_wp2_with fail
        refine HG.out.mono ?_
        rintro e w1 ⟨rfl, hb⟩
        have B1 := Lib.hid hb
        clear hb
        go_wp2_with fail
        refine (HG2.out _ B1.out).mono ?_
        rintro e w2 ⟨rfl, hb⟩
        have B2 := Lib.hid (joins B1.out hb)
        clear hb
        go_wp2_with fail
        go_returns
        exact ⟨rfl, B2.out⟩
end
section
open Go.RowKit

set_option maxRecDepth 100000 in
set_option maxHeartbeats 1000000 in
theorem clHeads_any (N : Nat) (hN : N ≤ 5) (w : World) : Calls Try.prog 45 #[.int .i64 N] w (MakesR w (hdA N)) := by
  have HW2 : ∀ k : Nat, k < pow4' N → ∀ w, Calls Try.prog 69 #[.int .i64 N, .int .i64 k] w (Makes w (lowD k N)) := fun k hk w => phWith_any N (by omega) k (by omega) (by have := (pow4_le' N (by omega)).2; omega) w
  have HL2 : ∀ k : Nat, ∀ v w, IS w v (lowD k N) → Calls Try.prog 39 #[v] w (Makes w (leX (lowD k N))) := fun k v w h => clLeast_any v _ w h (low_seq k N (by omega)) (by rw [lowD_length]; omega)
  have HS2 : ∀ k : Nat, ∀ v v2 w, IS w v (leX (lowD k N)) → IS w v2 (lowD k N) → Calls Try.prog 42 #[v, v2] w (Ret w (.bool (decide (leX (lowD k N) = lowD k N)))) := fun k v v2 w h1 h2 =>
    l1Same_any v v2 _ _ w h1 h2 (by have := ((leX_eqv _ (low_seq k N (by omega))).seq (low_seq k N (by omega))).2; rw [this, lowD_length]; omega) (by rw [lowD_length]; omega)
  have hst : ∀ k : Nat, hdX N (k + 1) = hdX N k ++ if leX (lowD k N) = lowD k N then [lowD k N] else [] := fun k => rfl
  have hlen := hdX_len N
  have hsh := shl_eq' N (by omega)
  have hp := (pow4_le' N (by omega)).2
  unfold hdA
  obtain ⟨D, hD⟩ : ∃ D : Nat → List Int, D = fun k : Nat => lowD k N := ⟨_, rfl⟩
  obtain ⟨K, hK⟩ : ∃ K, K = pow4' N := ⟨_, rfl⟩
  have hDk : ∀ k : Nat, lowD k N = D k := fun k => by rw [hD]
  simp only [hDk] at HW2 HL2 HS2 hst
  rw [← hK] at HW2 hp hsh ⊢
  obtain ⟨X, hX⟩ : ∃ X, X = hdX N := ⟨_, rfl⟩
  have HX0 := Lib.hid (show X 0 = [] by rw [hX]; rfl)
  rw [← hX] at hst hlen ⊢
  have HW := Lib.hid HW2
  have HL := Lib.hid HL2
  have HS := Lib.hid HS2
  have HST := Lib.hid hst
  have HLEN := Lib.hid hlen
  clear HW2 HL2 HS2 hst hlen hD hX hK hDk
  go_enter Try.func45, Try.ntmps45
  go_wp2_with fail
  go_loopw [4, 3] (fun x o wr => ∃ k : Nat, k ≤ K ∧ x = .int .i64 k ∧ OwnR wr w.heap.size o (X k) ∧ Below w.heap.size w wr) (fun x _ _ => K - (intOf x).toNat)
  case atStart => exact ⟨0, Nat.zero_le _, rfl, by rw [HX0.out]; exact OwnR.nil _ _, Below.refl _ _⟩
  case round =>
    obtain ⟨k, hk, rfl, hown, hbel⟩ := hrel
    have HB := Lib.hid hbel
    have HO := Lib.hid hown
    clear hown hbel
    by_cases hlt : k < K
    · have h0 : (0 : Int) ≤ (k : Int) := by omega
      have h1 : (k : Int) < (K : Int) := by omega
      have HWk := Lib.hid (HW.out k hlt)
      have HLk := Lib.hid (HL.out k)
      have HSk := Lib.hid (HS.out k)
      have hs := HST.out k
      have HGL := Lib.hid (show (X k).length ≤ 1048576 by have := HLEN.out k; omega)
      obtain ⟨l, hl⟩ : ∃ l, l = D k := ⟨_, rfl⟩
      rw [← hl] at HWk HLk HSk hs
      obtain ⟨c, hc⟩ : ∃ c, c = decide (leX l = l) := ⟨_, rfl⟩
      rw [← hc] at HSk
      have HC := Lib.hid (show X (k + 1) = if c then X k ++ [l] else X k by
        rw [hs, hc]
        by_cases e : leX l = l
        · rw [if_pos e, decide_eq_true e, if_pos rfl]
        · rw [if_neg e, decide_eq_false e, if_neg (by decide), List.append_nil])
      clear hs hl hc
      go_wp2_with fail
      refine (HWk.out _).mono ?_
      rintro e w2 ⟨r, rfl, hor, hb2⟩
      obtain ⟨ra, rc, hre⟩ := hor.is.sl
      subst hre
      have HOR := Lib.hid hor
      have HB2 := Lib.hid hb2
      clear hor hb2
      go_wp2_with fail
      refine (HLk.out _ _ HOR.out.is).mono ?_
      rintro e w5 ⟨r5, rfl, hor, hb5⟩
      have HO5 := Lib.hid hor
      have HB5 := Lib.hid (joins HB2.out hb5)
      have HR5 := Lib.hid (HOR.out.below hb5)
      clear hor hb5
      go_wp2_with fail
      refine (HSk.out _ _ _ HO5.out.is HR5.out.is).mono ?_
      rintro e w3 ⟨rfl, hb3⟩
      have HB3 := Lib.hid (joins HB5.out hb3)
      have HR3 := Lib.hid (HR5.out.below hb3)
      clear hb3
      cases c with
      | true =>
        go_wp2_with (at_builtin; refine wpList_pushR rfl _ _ rfl w.heap.size _ (X k) rfl wr HO.out (HB3.out.alloc HB3.out.size _) w3.heap.size 1 _ l rfl (by simp) (HR3.out.alloc _) HGL.out w.heap.size w (belowa (joins HB.out HB3.out) _) (Nat.le_refl _) HB.out.size (by have := HB.out.size; have := HB3.out.size; simp; omega) ?_; intro v4 w4 ho4 hb4)
        go_roundw
        case rel => exact ⟨k + 1, by omega, by go_num, by rw [HC.out]; simpa using ho4, by assumption⟩
        case measure => simp [intOf]; omega
      | false =>
        go_wp2_with fail
        go_roundw
        case rel => exact ⟨k + 1, by omega, by go_num, by rw [HC.out, if_neg (by decide)]; exact HO.out.below HB3.out, joins HB.out HB3.out⟩
        case measure => simp [intOf]; omega
    · obtain rfl : k = K := by omega
      go_wp2_with fail
      go_returns
      exact ⟨_, rfl, HO.out, HB.out⟩

theorem inB_nat {n hi : Int} (h : inB n 0 hi = true) : ∃ N : Nat, n = N ∧ (N : Int) ≤ hi := by
  have h1 : 0 ≤ n ∧ n ≤ hi := by unfold inB at h; simpa using h
  obtain ⟨N, rfl⟩ := Int.eq_ofNat_of_zero_le h1.1
  exact ⟨N, rfl, h1.2⟩
set_option maxHeartbeats 1000000 in
theorem sCountClasses (n : Int) (w : World) : Calls Try.prog 23 #[.int .i64 n] w (Ret w (.tuple #[.int .i64 (hcV n), .bool (inB n 0 5)])) := by
  have HC := Lib.hid (l1In_any n 0 5)
  unfold hcV
  cases hs : inB n 0 5 with
  | true =>
    rw [hs] at HC
    obtain ⟨N, rfl, hn⟩ := inB_nat hs
    have HA := Lib.hid (fun w => clHeads_any N (by omega) w)
    rw [if_pos rfl, Int.toNat_natCast]
    obtain ⟨L, hL⟩ : ∃ L, L = hdA N := ⟨_, rfl⟩
    rw [← hL] at HA ⊢
    clear hs hn hL
    go_enter Try.func23, Try.ntmps23
    go_wp2_with fail
    refine (HC.out _).mono ?_
    rintro e w1 ⟨rfl, rfl⟩
    go_wp2_with fail
    refine (HA.out _).mono ?_
    rintro e w2 ⟨v, rfl, ho, hb⟩
    obtain ⟨a, cap, rfl⟩ := ho.is.slice
    have HB := Lib.hid hb
    clear hb
    go_wp2_with fail
    go_returns
    exact ⟨rfl, HB.out⟩
  | false =>
    rw [hs] at HC
    rw [if_neg (by decide)]
    clear hs
    go_enter Try.func23, Try.ntmps23
    go_wp2_with fail
    refine (HC.out _).mono ?_
    rintro e w1 ⟨rfl, rfl⟩
    go_wp2_with fail
    go_returns
    exact ⟨rfl, by go_grown⟩
set_option maxHeartbeats 1000000 in
theorem sClassHeads (n : Int) (w : World) : Calls Try.prog 25 #[.int .i64 n] w (MakesRB w (hdF n) (inB n 0 4)) := by
  have HC := Lib.hid (l1In_any n 0 4)
  unfold hdF
  cases hs : inB n 0 4 with
  | true =>
    rw [hs] at HC
    obtain ⟨N, rfl, hn⟩ := inB_nat hs
    have HA := Lib.hid (fun w => clHeads_any N (by omega) w)
    rw [if_pos rfl, Int.toNat_natCast]
    obtain ⟨L, hL⟩ : ∃ L, L = hdA N := ⟨_, rfl⟩
    rw [← hL] at HA ⊢
    clear hs hn hL
    go_enter Try.func25, Try.ntmps25
    go_wp2_with fail
    refine (HC.out _).mono ?_
    rintro e w1 ⟨rfl, rfl⟩
    go_wp2_with fail
    refine (HA.out _).mono ?_
    rintro e w2 ⟨v, rfl, ho, hb⟩
    have HB := Lib.hid hb
    have HO := Lib.hid ho
    clear hb ho
    go_wp2_with fail
    go_returns
    exact ⟨v, rfl, HO.out, HB.out⟩
  | false =>
    rw [hs] at HC
    rw [if_neg (by decide)]
    clear hs
    go_enter Try.func25, Try.ntmps25
    go_wp2_with fail
    refine (HC.out _).mono ?_
    rintro e w1 ⟨rfl, rfl⟩
    go_wp2_with fail
    go_returns
    exact ⟨_, rfl, OwnR.nil _ _, by go_grown⟩
set_option maxRecDepth 100000 in
set_option maxHeartbeats 1000000 in
theorem sClassEnergies (n : Int) (w : World) : Calls Try.prog 27 #[.int .i64 n] w (MakesB w (heF n) (inB n 0 4)) := by
  have HC := Lib.hid (l1In_any n 0 4)
  unfold heF
  cases hs : inB n 0 4 with
  | true =>
    rw [hs] at HC
    obtain ⟨N, rfl, hn⟩ := inB_nat hs
    have HA := Lib.hid (fun w => clHeads_any N (by omega) w)
    rw [if_pos rfl, Int.toNat_natCast]
    have hseq : ∀ s ∈ hdA N, isSeq s = true := fun s h => ((hdA_mem N (by omega) s).1 h).1.1
    have hpos := hdA_pos N (by omega)
    have hlen := hdA_len N (by omega)
    obtain ⟨L, hL⟩ : ∃ L, L = hdA N := ⟨_, rfl⟩
    rw [← hL] at HA hseq hpos hlen ⊢
    have HE := Lib.hid (fun (k : Nat) (hk : k < L.length) v w (h : IS w v (L.getD k [])) => crEnergy_any v _ w h (hseq _ (by rw [getD_at _ _ hk]; exact List.getElem_mem hk)))
    have HST := Lib.hid (fun (k : Nat) (hk : k < L.length) => show (L.map sideE).take (k + 1) = (L.map sideE).take k ++ [sideE (L.getD k [])] from by
      rw [List.take_add_one, List.getElem?_eq_getElem (by rw [List.length_map]; exact hk)]
      simp [List.getD, hk])
    have HTL := Lib.hid (fun (k : Nat) => show ((L.map sideE).take k).length ≤ 1048576 from by rw [List.length_take, List.length_map]; omega)
    have HFI := Lib.hid (show (L.map sideE).take L.length = L.map sideE from by rw [← List.length_map sideE, List.take_length])
    obtain ⟨m, hm⟩ : ∃ m, m = L.length := ⟨_, rfl⟩
    have HM := Lib.hid hm
    obtain ⟨T, hT⟩ : ∃ T, T = L.map sideE := ⟨_, rfl⟩
    rw [← hT] at HST HTL HFI ⊢
    have HPO := Lib.hid hpos
    rw [← hm] at HE HST HFI hlen
    clear hs hn hL hseq hpos hT
    go_enter Try.func27, Try.ntmps27
    go_wp2_with fail
    refine (HC.out _).mono ?_
    rintro e w1 ⟨rfl, rfl⟩
    go_wp2_with fail
    refine (HA.out _).mono ?_
    rintro e w2 ⟨v, rfl, ho, hb⟩
    obtain ⟨g, cap, rfl, hg1, hg2⟩ := ho.shape HPO.out
    rw [← hm]
    rw [← hm] at ho
    have CE := Lib.hid (fun k (hk : k < m) => OwnR.rowAt9 ho HM.out k (by rw [← HM.out]; exact hk))
    have B2 := Lib.hid hb
    clear hb ho hg1 hg2 hm
    go_wp2_with fail
    go_loopw [13, 4] (fun i o wr => ∃ k : Nat, k ≤ m ∧ i = .int .i64 k ∧ Own wr w2.heap.size o (T.take k) ∧ Below w2.heap.size w2 wr) (fun i _ _ => m - (intOf i).toNat)
    case atStart => exact ⟨0, Nat.zero_le _, rfl, World.ownsRow_nil _ _ _ _, Below.refl _ _⟩
    case round =>
      obtain ⟨k, hk, rfl, hown, hbel⟩ := hrel
      have HO := Lib.hid hown
      have HB := Lib.hid hbel
      by_cases hlt : k < m
      · obtain ⟨u, hu, hou⟩ := CE.out k hlt
        have c1 := keepc hbel hu
        have HU := Lib.hid (hou.below hbel)
        have h0 : (0 : Int) ≤ (k : Int) := by omega
        have h1 : (k : Int) < (m : Int) := by omega
        have HEk := Lib.hid (HE.out k hlt)
        have HSk := Lib.hid (HST.out k hlt)
        have HTk := Lib.hid (HTL.out k)
        obtain ⟨l, hl⟩ : ∃ l, l = L.getD k [] := ⟨_, rfl⟩
        rw [← hl] at HEk HSk HU
        obtain ⟨z, hz⟩ : ∃ z, z = sideE l := ⟨_, rfl⟩
        rw [← hz] at HEk HSk
        clear hl hz
        clear hown hbel hu hou
        go_wp2_with fail
        refine (HEk.out _ _ HU.out.is).mono ?_
        rintro e w5 ⟨rfl, hb⟩
        have B5 := Lib.hid (joins HB.out hb)
        have O5 := Lib.hid (HO.out.below hb)
        clear hb c1
        go_wp2_with (at_builtin; refine wpList_push rfl _ _ rfl w2.heap.size _ (T.take k) rfl (O5.out.alloc _) w5.heap.size 1 z rfl (by simp) HTk.out w2.heap.size w2 (belowa B5.out _) (Nat.le_refl _) (by have := B5.out.size; simp; omega) (by have := B5.out.size; simp; omega) ?_; intro v4 w4 ho4 hb4)
        go_roundw
        case rel => exact ⟨k + 1, by omega, by go_num, by rw [HSk.out]; assumption, by assumption⟩
        case measure => simp [intOf]; omega
      · obtain rfl : k = m := by omega
        have hx := hown
        rw [HFI.out] at hx
        have HOF := Lib.hid (hx.mono B2.out.size)
        have HBB := Lib.hid (joins B2.out hbel)
        clear hown hbel hx
        go_wp2_with fail
        go_returns
        exact ⟨_, rfl, HOF.out, HBB.out⟩
  | false =>
    rw [hs] at HC
    rw [if_neg (by decide)]
    clear hs
    go_enter Try.func27, Try.ntmps27
    go_wp2_with fail
    refine (HC.out _).mono ?_
    rintro e w1 ⟨rfl, rfl⟩
    go_wp2_with fail
    go_returns
    exact ⟨_, rfl, World.ownsRow_nil _ _ _ _, by go_grown⟩
end
end Go.Proofs.Ytcagiecgbjnefab
