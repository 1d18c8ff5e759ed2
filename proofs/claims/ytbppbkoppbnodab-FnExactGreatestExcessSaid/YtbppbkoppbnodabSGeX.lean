/- The model's GreatestExcess. -/
import Derived.Test.YtbppbkoppbnodabSGe
import Derived.Test.YtbppbkoppbnodabSMov
namespace Go.Proofs.Ytbppbkoppbnodab
set_option maxRecDepth 100000
open Go.RowKit

def tuR (m : List (List Int)) (c i : Nat) : List Int := turnG (m.getD i []) ((c / 4 ^ i % 4 : Nat) : Int)
def tuP (m : List (List Int)) (c j : Nat) : List (List Int) := genR m.length (fun i => if i < j then tuR m c i else m.getD i [])
theorem tuP_length (m : List (List Int)) (c j : Nat) : (tuP m c j).length = m.length := genR_length _ _
theorem tuP_zero (m : List (List Int)) (c : Nat) : tuP m c 0 = m := by
  rw [show tuP m c 0 = genR m.length (fun i => m.getD i []) from genR_ext (fun i _ => by simp), genR_self]
theorem tuP_set (m : List (List Int)) (c j : Nat) (h : j < m.length) : (tuP m c j).set j (tuR m c j) = tuP m c (j + 1) := by
  apply getD_ext _ _ []
  · simp [tuP_length]
  · intro i hi
    rw [List.length_set, tuP_length] at hi
    rw [getD_set _ _ _ _ _ (by rw [tuP_length]; exact h)]
    unfold tuP
    rw [genR_getD _ _ _ hi, genR_getD _ _ _ hi]
    by_cases e : i = j
    · subst e; rw [if_pos rfl, if_pos (by omega)]
    · rw [if_neg e]
      by_cases e2 : i < j
      · rw [if_pos e2, if_pos (by omega)]
      · rw [if_neg e2, if_neg (by omega)]
theorem tuP_at (m : List (List Int)) (c : Nat) (hm : maOk m = true) (i j : Nat) (hi : i < m.length) (hj : j < m.length) : atM (tuP m c m.length) i j = (atM m i j + ((c / 4 ^ i % 4 : Nat) : Int)) % 4 := by
  show ((tuP m c m.length).getD i []).getD j 0 = _
  unfold tuP
  rw [genR_getD _ _ _ hi, if_pos hi]
  unfold tuR turnG
  rw [maOk_sq hm i hi, gen_getD _ _ _ hj]
  rfl
theorem maOk_tu {m : List (List Int)} (hm : maOk m = true) (c : Nat) : maOk (tuP m c m.length) = true := by
  refine maOk_of (by rw [tuP_length]; exact (maOk_parts hm).1) (fun i hi => ?_) (fun i j hi hj => ?_)
  · rw [tuP_length] at hi ⊢
    unfold tuP
    rw [genR_getD _ _ _ hi, if_pos hi]
    unfold tuR
    rw [turnG_len']
    exact maOk_sq hm i hi
  · rw [tuP_length] at hi hj
    rw [tuP_at m c hm i j hi hj]
    omega
theorem tu_geQ {m : List (List Int)} (hm : maOk m = true) (c : Nat) : geS (atM (tuP m c m.length)) m.length (fun _ => 0) = geQ (atM m) m.length c := by
  refine geS_ext _ _ _ _ _ (fun i j hi hj => ?_)
  rw [tuP_at m c hm i j hi hj]
  omega
theorem shl_four' (n : Nat) (hn : n ≤ 5) : wrap64 (2 ^ (2 * n)) = ((4 ^ n : Nat) : Int) := by
  rcases (show n = 0 ∨ n = 1 ∨ n = 2 ∨ n = 3 ∨ n = 4 ∨ n = 5 by omega) with rfl | rfl | rfl | rfl | rfl | rfl <;> simp [wrap64]
theorem four_le' (n : Nat) (hn : n ≤ 5) : 1 ≤ 4 ^ n ∧ 4 ^ n ≤ 1024 := by
  rcases (show n = 0 ∨ n = 1 ∨ n = 2 ∨ n = 3 ∨ n = 4 ∨ n = 5 by omega) with rfl | rfl | rfl | rfl | rfl | rfl <;> simp
theorem shr_four (c i : Nat) (hi : i ≤ 5) : (c : Int) / 2 ^ (2 * i) = ((c / 4 ^ i : Nat) : Int) := by
  rcases (show i = 0 ∨ i = 1 ∨ i = 2 ∨ i = 3 ∨ i = 4 ∨ i = 5 by omega) with rfl | rfl | rfl | rfl | rfl | rfl <;> simp
theorem shift_four {P : Program} (c i : Nat) (hi : i ≤ 5) (w : World) : (Op.shift .shr .i64 (c : Int) .i64 (IntKind.i64.wrap (2 * (i : Int)))).run P w = .ok (.int .i64 ((c / 4 ^ i : Nat) : Int)) w := by
  have h := shift_shr .i64 .i64 (c : Int) (2 * (i : Int)) (by omega) (by show 2 * (i : Int) ≤ 64; omega)
  rw [wrapI_small _ (by omega), h, show ((2 : Int) * (i : Int)).toNat = 2 * i by omega, shr_four c i hi]
  rfl
set_option maxRecDepth 100000 in
set_option maxHeartbeats 4000000 in
theorem sgreatestExcess (v : Value) (m : List (List Int)) (w : World) (hv : IR w v m) : Calls Try.prog 23 #[v] w (Ret w (.tuple #[.int .i64 (geA m), .bool (geOk m)])) := by
  obtain ⟨a, cap, rfl⟩ := hv.slice
  have HGD := Lib.hid (haGood_any _ m w hv)
  have B0 := Lib.hid (Below.refl w.heap.size w)
  by_cases hok : geOk m = true
  · have hm : maOk m = true ∧ m.length ≤ 5 := by simpa [geOk] using hok
    obtain ⟨hm, h5⟩ := hm
    have h8 := maOk_le hm
    have h1n := (maOk_parts hm).1.1
    have eA : geA m = maxN (geQ (atM m) m.length) (4 ^ m.length) := by unfold geA; rw [hok, if_pos rfl]
    rw [hok, eA]
    rw [hm] at HGD
    have HV := Lib.hid hv
    have HCP := Lib.hid (fun w' (h : IR w' (.slice a m.length cap) m) => haCopy_any _ m w' h (by omega) (fun i hi => by rw [maOk_sq hm i hi]; omega))
    have HCO := Lib.hid (fun (c : Nat) (v' : Value) (w' : World) (h : IR w' v' (tuP m c m.length)) => haColumns_any v' _ w' h (maOk_tu hm c))
    have HSE := Lib.hid (fun i (hi : i < m.length) => maOk_seq hm i hi)
    have HSL := Lib.hid (fun i (hi : i < m.length) => maOk_sq hm i hi)
    have HQ := Lib.hid (fun c : Nat => show 0 ≤ geQ (atM m) m.length c ∧ geQ (atM m) m.length c ≤ 128 by
      have := geS_small (atM m) m.length h8 (fun i => ((c / 4 ^ i % 4 : Nat) : Int)) m.length
      have e : geQ (atM m) m.length c = sumN (geC (atM m) m.length (fun i => ((c / 4 ^ i % 4 : Nat) : Int))) m.length := rfl
      rw [e]; omega)
    have ht : ∀ c, geS (atM (tuP m c m.length)) (tuP m c m.length).length (fun _ => 0) = geQ (atM m) m.length c := fun c => by rw [tuP_length]; exact tu_geQ hm c
    simp only [ht] at HCO
    obtain ⟨G, hG⟩ : ∃ G : Nat → Int, G = geQ (atM m) m.length := ⟨_, rfl⟩
    rw [← hG] at HCO HQ ⊢
    have HMS := Lib.hid (fun k => show maxN G (k + 1) = if G k > maxN G k then G k else maxN G k from rfl)
    obtain ⟨X, hX⟩ : ∃ X, X = maxN G := ⟨_, rfl⟩
    rw [← hX] at HMS ⊢
    have HX0 := Lib.hid (show X 0 = 0 by rw [hX]; rfl)
    have hsh := shl_four' m.length h5
    have hle := four_le' m.length h5
    obtain ⟨N, hN⟩ : ∃ N, N = 4 ^ m.length := ⟨_, rfl⟩
    rw [← hN] at hsh hle ⊢
    obtain ⟨n, hn⟩ : ∃ n, n = m.length := ⟨_, rfl⟩
    have HNM := Lib.hid hn
    have HTL := Lib.hid (fun c j => tuP_length m c j)
    have HTS := Lib.hid (fun c j hj => tuP_set m c j hj)
    rw [← hn] at HGD HV HCP HCO HSE HSL h8 h1n h5 hsh HTL HTS ⊢
    clear hv hm hok eA hG hX hN hn ht
    go_enter Try.func23, Try.ntmps23
    go_wp2_with fail
    refine (HGD.out).mono ?_
    rintro e w1 ⟨rfl, hb1⟩
    have B1 := Lib.hid (joins B0.out hb1)
    clear hb1
    go_wp2_with fail
    go_loopw [5, 4] (fun q s wr => ∃ c : Nat, c ≤ N ∧ q = .int .i64 c ∧ s = .int .i64 (X c) ∧ Below w.heap.size w wr) (fun q _ _ => N - (intOf q).toNat)
    case atStart => exact ⟨0, Nat.zero_le _, rfl, by rw [HX0.out], B1.out⟩
    case round =>
      obtain ⟨c, hc, rfl, rfl, hbel⟩ := hrel
      have BR := Lib.hid hbel
      clear hbel
      generalize hwo : wr = wo at *
      clear hwo
      by_cases hlt : c < N
      · have h0 : (0 : Int) ≤ (c : Int) := by omega
        have h1 : (c : Int) < (N : Int) := by omega
        have HCP1 := Lib.hid (HCP.out wo (HV.out.below BR.out))
        go_wp2_with fail
        refine (HCP1.out).mono ?_
        rintro e w2 ⟨v2, rfl, ho2, hb2⟩
        obtain ⟨g, cap2, hge, hg1, hg2⟩ := ho2.shape (by rw [← HNM.out]; omega)
        subst hge
        rw [← HNM.out] at ho2
        have HO2 := Lib.hid ho2
        have BW2 := Lib.hid hb2
        have HG1 := Lib.hid hg1
        rw [← HNM.out]
        clear ho2 hb2 hg1 hg2
        go_wp2_with fail
        go_loopw [28] (fun q wr => ∃ j : Nat, j ≤ n ∧ q = .int .i64 j ∧ OwnR wr wo.heap.size (.slice (some ⟨g, 0, none⟩) n cap2) (tuP m c j) ∧ Below wo.heap.size wo wr) (fun q _ => n - (intOf q).toNat)
        case atStart => exact ⟨0, Nat.zero_le _, rfl, by rw [tuP_zero]; exact HO2.out, BW2.out⟩
        case round =>
          obtain ⟨j, hj, rfl, hown, hbw⟩ := hrel
          have HO := Lib.hid hown
          have BW := Lib.hid hbw
          clear hown hbw
          by_cases hlj : j < n
          · have h0j : (0 : Int) ≤ (j : Int) := by omega
            have h1j : (j : Int) < (n : Int) := by omega
            have h5j : (j : Int) ≤ 5 := by omega
            have hjn : j < (tuP m c j).length := by rw [HTL.out]; exact hlj
            obtain ⟨-, b, off, u, hae, c1, hu⟩ := (HV.out.below (joins BR.out BW.out)).at j (by rw [← HNM.out]; exact hlj)
            subst hae
            have hsq := HSE.out j hlj
            have hset := HTS.out c j hlj
            have hsh1 := fun w => shift_four (P := Try.prog) c j (by omega) w
            obtain ⟨e, he⟩ : ∃ e, e = c / 4 ^ j := ⟨_, rfl⟩
            have htr : tuR m c j = turnG (m.getD j []) ((e % 4 : Nat) : Int) := by rw [he]; rfl
            rw [← he] at hsh1
            have he1 : e ≤ 1024 := by rw [he]; exact Nat.le_trans (Nat.div_le_self _ _) (by omega)
            have hmod : (e : Int) % 4 = ((e % 4 : Nat) : Int) := by push_cast; rfl
            have htmod : (e : Int).tmod 4 = ((e % 4 : Nat) : Int) := rfl
            obtain ⟨d, hd⟩ : ∃ d, d = e % 4 := ⟨_, rfl⟩
            have hd4 : d < 4 := by rw [hd]; exact Nat.mod_lt _ (by omega)
            rw [← hd] at htr hmod htmod
            obtain ⟨r, hr⟩ : ∃ r, r = tuR m c j := ⟨_, rfl⟩
            rw [← hr] at htr hset
            have HT := Lib.hid (show ∀ w', IS w' u (m.getD j []) → Calls Try.prog 52 #[u, .int .i64 (d : Int)] w' (Makes w' r) from fun w' h => by rw [htr]; exact phTurn_any u _ (d : Int) w' h hsq (by omega) (by omega))
            have HSET := Lib.hid hset
            obtain ⟨ua, uc, rfl⟩ := hu.sl
            have hw2 : wrap64 ((2 : Int) * (j : Int)) = (2 : Int) * (j : Int) := by
              clear hmod htmod hsh1 hd he
              exact wrap_small _ (by omega)
            have hud := hu.below (belowN (Below.refl _ _) 1)
            have hsz : wr.drew.heap.size = wr.heap.size := rfl
            have HE1 := Lib.hid he1
            clear hr htr hset hsq hd he
            go_wp2_with fail
            go_region_with (go_at_call 52; refine (HT.out _ (by assumption)).mono ?_; rintro e w' ⟨v', rfl, hor, hb⟩; obtain ⟨ra, rc, hre⟩ := hor.is.sl; subst hre; have hb' := (belowN (Below.refl wr.heap.size wr) 1).trans hb; have hown' := HO.out.below hb'; obtain ⟨old, c5, f5, hio⟩ := hown'.cellAt (HTL.out c j).symm j hjn; obtain ⟨oa, oc, hoe⟩ := hio.sl; subst hoe)
            all_goals
              have hO' := OwnR.stored HO.out (HTL.out c j).symm hb' BW.out.size hor j hjn
              rw [HSET.out] at hO'
              have HO' := Lib.hid hO'
              have HBN := Lib.hid ((joins BW.out hb').setCell (p := ⟨g, j, none⟩) HG1.out (.slice ra r.length rc))
              clear hO' hb' hor hown' hb
              go_wp2_with fail
              go_roundw
              case rel => exact ⟨j + 1, by omega, by go_num, HO'.out, HBN.out⟩
              case measure => simp [intOf]; omega
          · obtain rfl : n = j := by omega
            have HCO1 := Lib.hid (HCO.out c _ wr HO.out.is)
            have hq := HQ.out c
            have hms := HMS.out c
            obtain ⟨y, hy⟩ : ∃ y, y = G c := ⟨_, rfl⟩
            obtain ⟨x, hx⟩ : ∃ y, y = X c := ⟨_, rfl⟩
            rw [← hy] at HCO1 hq hms
            rw [← hx] at hms ⊢
            have HMS' := Lib.hid hms
            have HL := Lib.hid (l1Most_any x y)
            clear hq hms hy hx
            go_wp2_with fail
            refine (HCO1.out).mono ?_
            rintro e w3 ⟨rfl, hb3⟩
            have B3 := Lib.hid (joins (joins BR.out BW.out) hb3)
            clear hb3
            go_wp2_with fail
            refine (HL.out _).mono ?_
            rintro e w4 ⟨rfl, rfl⟩
            go_wp2_with fail
            go_roundw
            case rel => exact ⟨c + 1, by omega, by go_num, by rw [HMS'.out], B3.out⟩
            case measure => simp [intOf]; omega
      · obtain rfl : N = c := by omega
        go_wp2_with fail
        go_returns
        exact ⟨rfl, BR.out⟩
  · have hok2 : geOk m = false := by simpa using hok
    have eA : geA m = 0 := by unfold geA; rw [hok2]; rfl
    rw [hok2, eA]
    cases hm : maOk m with
    | false =>
      rw [hm] at HGD
      clear hv hm hok hok2 eA
      go_enter Try.func23, Try.ntmps23
      go_wp2_with fail
      refine (HGD.out).mono ?_
      rintro e w1 ⟨rfl, hb1⟩
      go_wp2_with fail
      go_returns
      exact ⟨rfl, hb1⟩
    | true =>
      have h5 : ¬ m.length ≤ 5 := fun h => by unfold geOk at hok2; rw [hm, decide_eq_true h] at hok2; cases hok2
      have h8 := maOk_le hm
      rw [hm] at HGD
      have h5' : (5 : Int) < (m.length : Int) := by omega
      clear hv hm hok hok2 eA
      go_enter Try.func23, Try.ntmps23
      go_wp2_with fail
      refine (HGD.out).mono ?_
      rintro e w1 ⟨rfl, hb1⟩
      go_wp2_with fail
      go_returns
      exact ⟨rfl, hb1⟩
end Go.Proofs.Ytbppbkoppbnodab
