/- The model's clLeast, OrbitOf, LeastOf, AreEquivalent. -/
import Derived.Test.YtcagiecgbjnefabSClO
namespace Go.Proofs.Ytcagiecgbjnefab
set_option maxRecDepth 100000
open Go.RowKit

theorem OwnR.rowAt9 {w : World} {B g n cap : Nat} {ll : List (List Int)} (h : OwnR w B (.slice (some ⟨g, 0, none⟩) n cap) ll) (hn : n = ll.length) (i : Nat) (hi : i < ll.length) :
    ∃ u, w.cell? ⟨g, i, none⟩ = some u ∧ Own w B u (ll.getD i []) := by
  subst hn
  obtain ⟨rs, h, hr, -⟩ := h
  refine ⟨rs.getD i (.slice none 0 0), ?_, hr.own i hi⟩
  rw [h.cellAt i (by omega)]
  have : i < rs.length := by rw [hr.len]; exact hi
  simp [List.getD, this]
set_option maxRecDepth 100000 in
set_option maxHeartbeats 1000000 in
theorem clLeast_any (va : Value) (l : List Int) (w : World) (hva : IS w va l) (hs : isSeq l = true) (h15 : l.length ≤ 15) : Calls Try.prog 39 #[va] w (Makes w ((orL l 64).getD 0 [])) := by
  have HO := Lib.hid (clOrbit_any va l w hva hs h15)
  have HP := Lib.hid (orL_pos l 63)
  obtain ⟨L, hL⟩ : ∃ L, L = orL l 64 := ⟨_, rfl⟩
  rw [show orL l (63 + 1) = L from hL.symm] at HP
  rw [← hL] at HO ⊢
  clear hva hs h15 hL
  go_enter Try.func39, Try.ntmps39
  go_wp2_with fail
  refine (HO.out).mono ?_
  rintro e w1 ⟨v, rfl, ho, hb⟩
  have B1 := Lib.hid hb
  obtain ⟨g, cap, rfl, hg1, hg2⟩ := ho.shape HP.out
  obtain ⟨u, c1, hu⟩ := ho.rowAt9 rfl 0 HP.out
  have HU := Lib.hid hu
  have hp0 : (0 : Int) < ((L.length : Nat) : Int) := by have := HP.out; omega
  obtain ⟨m, hm⟩ : ∃ m, m = L.length := ⟨_, rfl⟩
  rw [← hm] at hp0 ⊢
  clear ho hb hg1 hg2 hu hm
  go_wp2_with fail
  go_returns
  exact ⟨_, rfl, HU.out, B1.out⟩
set_option maxHeartbeats 1000000 in
theorem sOrbitOf (va : Value) (l : List Int) (w : World) (hva : IS w va l) (hla : l.length ≤ 1048576) : Calls Try.prog 10 #[va] w (MakesRB w (orF l) (ranked l)) := by
  have HG := Lib.hid (clGood_any va l w hva hla)
  unfold orF
  cases hr : ranked l with
  | false =>
    rw [hr] at HG
    rw [if_neg (by decide)]
    clear hr hva
    go_enter Try.func10, Try.ntmps10
    go_wp2_with fail
    refine HG.out.mono ?_
    rintro e w1 ⟨rfl, hb⟩
    have B1 := Lib.hid hb
    clear hb
    go_wp2_with fail
    go_returns
    exact ⟨_, rfl, OwnR.nil _ _, B1.out⟩
  | true =>
    rw [hr] at HG
    rw [if_pos rfl]
    obtain ⟨hs, h15⟩ := ranked_seq hr
    have HO := Lib.hid (fun w' (h : Below w.heap.size w w') => clOrbit_any va l w' (hva.below h) hs h15)
    obtain ⟨L, hL⟩ : ∃ L, L = orL l 64 := ⟨_, rfl⟩
    rw [← hL] at HO ⊢
    clear hr hva hs h15 hL
    go_enter Try.func10, Try.ntmps10
    go_wp2_with fail
    refine HG.out.mono ?_
    rintro e w1 ⟨rfl, hb⟩
    have B1 := Lib.hid hb
    clear hb
    go_wp2_with fail
    refine (HO.out _ B1.out).mono ?_
    rintro e w2 ⟨v, rfl, ho, hb⟩
    have O2 := Lib.hid (ho.mono B1.out.size)
    have B2 := Lib.hid (joins B1.out hb)
    clear ho hb
    go_wp2_with fail
    go_returns
    exact ⟨_, rfl, O2.out, B2.out⟩
set_option maxHeartbeats 1000000 in
theorem sLeastOf (va : Value) (l : List Int) (w : World) (hva : IS w va l) (hla : l.length ≤ 1048576) : Calls Try.prog 18 #[va] w (MakesB w (lsF9 l) (ranked l)) := by
  have HG := Lib.hid (clGood_any va l w hva hla)
  unfold lsF9
  cases hr : ranked l with
  | false =>
    rw [hr] at HG
    rw [if_neg (by decide)]
    clear hr hva
    go_enter Try.func18, Try.ntmps18
    go_wp2_with fail
    refine HG.out.mono ?_
    rintro e w1 ⟨rfl, hb⟩
    have B1 := Lib.hid hb
    clear hb
    go_wp2_with fail
    go_returns
    exact ⟨_, rfl, World.ownsRow_nil _ _ _ _, B1.out⟩
  | true =>
    rw [hr] at HG
    rw [if_pos rfl]
    obtain ⟨hs, h15⟩ := ranked_seq hr
    have HO := Lib.hid (fun w' (h : Below w.heap.size w w') => clLeast_any va l w' (hva.below h) hs h15)
    obtain ⟨L, hL⟩ : ∃ L, L = (orL l 64).getD 0 [] := ⟨_, rfl⟩
    rw [← hL] at HO ⊢
    clear hr hva hs h15 hL
    go_enter Try.func18, Try.ntmps18
    go_wp2_with fail
    refine HG.out.mono ?_
    rintro e w1 ⟨rfl, hb⟩
    have B1 := Lib.hid hb
    clear hb
    go_wp2_with fail
    refine (HO.out _ B1.out).mono ?_
    rintro e w2 ⟨v, rfl, ho, hb⟩
    have O2 := Lib.hid (ho.mono B1.out.size)
    have B2 := Lib.hid (joins B1.out hb)
    clear ho hb
    go_wp2_with fail
    go_returns
    exact ⟨_, rfl, O2.out, B2.out⟩
set_option maxRecDepth 100000 in
set_option maxHeartbeats 2000000 in
theorem sAreEquivalent (va vb : Value) (l t : List Int) (w : World) (hva : IS w va l) (hvb : IS w vb t) (hla : l.length ≤ 1048576) (hlb : t.length ≤ 1048576) :
    Calls Try.prog 21 #[va, vb] w (Ret w (.tuple #[.bool (eqF9 l t), .bool (bothR l t)])) := by
  have HG := Lib.hid (clGood_any va l w hva hla)
  have HG2 := Lib.hid (fun w' (h : Below w.heap.size w w') => clGood_any vb t w' (hvb.below h) hlb)
  obtain ⟨pa, ca, rfl⟩ := hva.shape
  obtain ⟨pb, cb, rfl⟩ := hvb.shape
  cases hr : ranked l with
  | false =>
    have h0 : bothR l t = false := by unfold bothR; rw [hr]; rfl
    have h1 : eqF9 l t = false := by unfold eqF9; rw [h0]; rfl
    rw [h0, h1]
    rw [hr] at HG
    obtain ⟨n1, hn1⟩ : ∃ n, n = l.length := ⟨_, rfl⟩
    obtain ⟨n2, hn2⟩ : ∃ n, n = t.length := ⟨_, rfl⟩
    rw [← hn1] at HG ⊢
    rw [← hn2] at HG2 ⊢
    clear h0 h1 hr hva hvb hla hlb hn1 hn2
    go_enter Try.func21, Try.ntmps21
    go_wp2_with fail
    refine HG.out.mono ?_
    rintro e w1 ⟨rfl, hb⟩
    have B1 := Lib.hid hb
    clear hb
    go_wp2_with fail
    go_returns
    exact ⟨rfl, B1.out⟩
  | true =>
    rw [hr] at HG
    cases hr2 : ranked t with
    | false =>
      have h0 : bothR l t = false := by unfold bothR; rw [hr, hr2]; rfl
      have h1 : eqF9 l t = false := by unfold eqF9; rw [h0]; rfl
      rw [h0, h1]
      rw [hr2] at HG2
      obtain ⟨n1, hn1⟩ : ∃ n, n = l.length := ⟨_, rfl⟩
      obtain ⟨n2, hn2⟩ : ∃ n, n = t.length := ⟨_, rfl⟩
      rw [← hn1] at HG ⊢
      rw [← hn2] at HG2 ⊢
      clear h0 h1 hr hr2 hva hvb hla hlb hn1 hn2
      go_enter Try.func21, Try.ntmps21
      go_wp2_with fail
      refine HG.out.mono ?_
      rintro e w1 ⟨rfl, hb⟩
      have B1 := Lib.hid hb
      clear hb
      go_wp2_with fail
      refine (HG2.out _ B1.out).mono ?_
      rintro e w2 ⟨rfl, hb⟩
      have B2 := Lib.hid (joins B1.out hb)
      clear hb
      go_wp2_with fail
      go_returns
      exact ⟨rfl, B2.out⟩
    | true =>
      rw [hr2] at HG2
      have h0 : bothR l t = true := by unfold bothR; rw [hr, hr2]; rfl
      by_cases hlen : l.length = t.length
      · obtain ⟨hs, h15⟩ := ranked_seq hr
        obtain ⟨ht, h15t⟩ := ranked_seq hr2
        have h1 : eqF9 l t = decide ((orL l 64).getD 0 [] = (orL t 64).getD 0 []) := by unfold eqF9; rw [h0, decide_eq_true hlen, Bool.true_and, Bool.true_and]
        rw [h0, h1]
        have HL1 := Lib.hid (fun w' (h : Below w.heap.size w w') => clLeast_any _ l w' (hva.below h) hs h15)
        have HL2 := Lib.hid (fun w' (h : Below w.heap.size w w') => clLeast_any _ t w' (hvb.below h) ht h15t)
        obtain ⟨X, hX⟩ : ∃ X, X = (orL l 64).getD 0 [] := ⟨_, rfl⟩
        obtain ⟨Y, hY⟩ : ∃ X, X = (orL t 64).getD 0 [] := ⟨_, rfl⟩
        have hm1 : X.length = l.length := by rw [hX]; exact (least_in l hs).2
        have hm2 : Y.length = t.length := by rw [hY]; exact (least_in t ht).2
        rw [← hX] at HL1 ⊢
        rw [← hY] at HL2 ⊢
        have HS := Lib.hid (fun v v2 w (h1 : IS w v X) (h2 : IS w v2 Y) => l1Same_any v v2 X Y w h1 h2 (by rw [hm1]; omega) (by rw [hm2]; omega))
        obtain ⟨n, hn⟩ : ∃ n, n = l.length := ⟨_, rfl⟩
        rw [← hlen] at HG2 HL2 ⊢
        rw [← hn] at HG HG2 HL1 HL2 ⊢
        clear h0 h1 hr hr2 hva hvb hla hlb hlen hs ht h15 h15t hm1 hm2 hX hY hn
        go_enter Try.func21, Try.ntmps21
        go_wp2_with fail
        refine HG.out.mono ?_
        rintro e w1 ⟨rfl, hb⟩
        have B1 := Lib.hid hb
        clear hb
        go_wp2_with fail
        refine (HG2.out _ B1.out).mono ?_
        rintro e w2 ⟨rfl, hb⟩
        have B2 := Lib.hid (joins B1.out hb)
        clear hb
        go_wp2_with fail
        refine (HL1.out _ B2.out).mono ?_
        rintro e w3 ⟨v3, rfl, ho, hb⟩
        have O3 := Lib.hid ho
        have B3 := Lib.hid (joins B2.out hb)
        clear ho hb
        go_wp2_with fail
        refine (HL2.out _ B3.out).mono ?_
        rintro e w4 ⟨v4, rfl, ho, hb⟩
        have O4 := Lib.hid ho
        have O34 := Lib.hid (O3.out.below hb)
        have B4 := Lib.hid (joins B3.out hb)
        clear ho hb
        go_wp2_with fail
        refine (HS.out _ _ _ O34.out.is O4.out.is).mono ?_
        rintro e w5 ⟨rfl, hb⟩
        have B5 := Lib.hid (joins B4.out hb)
        clear hb
        go_wp2_with fail
        go_returns
        exact ⟨rfl, B5.out⟩
      · have h1 : eqF9 l t = false := by unfold eqF9; rw [decide_eq_false hlen]; simp
        rw [h0, h1]
        have hne : (((l.length : Int)) == (t.length : Int)) = false := by simpa using (show ((l.length : Int)) ≠ (t.length : Int) by omega)
        obtain ⟨n1, hn1⟩ : ∃ n, n = l.length := ⟨_, rfl⟩
        obtain ⟨n2, hn2⟩ : ∃ n, n = t.length := ⟨_, rfl⟩
        rw [← hn1] at HG hne ⊢
        rw [← hn2] at HG2 hne ⊢
        clear h0 h1 hr hr2 hva hvb hla hlb hn1 hn2 hlen
        go_enter Try.func21, Try.ntmps21
        go_wp2_with fail
        refine HG.out.mono ?_
        rintro e w1 ⟨rfl, hb⟩
        have B1 := Lib.hid hb
        clear hb
        go_wp2_with fail
        refine (HG2.out _ B1.out).mono ?_
        rintro e w2 ⟨rfl, hb⟩
        have B2 := Lib.hid (joins B1.out hb)
        clear hb
        go_wp2_with fail
        go_returns
        exact ⟨rfl, B2.out⟩
end Go.Proofs.Ytcagiecgbjnefab
