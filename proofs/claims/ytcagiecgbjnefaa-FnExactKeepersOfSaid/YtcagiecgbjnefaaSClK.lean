/- The model's KeepersOf, CountFixed, SizesOf. -/
import Derived.Test.YtcagiecgbjnefaaSClB
namespace Go.Proofs.Ytcagiecgbjnefaa
set_option maxRecDepth 100000
open Go.RowKit

/-- A value of one cell behind a list of such of the call's own. -/
theorem wpList_pushV {ops : Array Oper} {rest : List Oper} {o : Oper} {a : Act} {w : World} {Q : Exit → Act → World → Prop} (hg : o.guard = none) (s x : Operand)
    (ho : o.op = .call { callee := .builtin .append, args := #[s, x], argTypes := #[29, 29] }) (B : Nat) (v : Value) (rs : List Value) (hs : a.eval s = v)
    (hown : w.ownsRow B 22 1 v rs.length rs)
    (g c : Nat) (r : Value) (hx : a.eval x = .slice (some ⟨g, 0, none⟩) 1 c) (hc : w.cell? ⟨g, 0, none⟩ = some r) (h1 : r.oneCell' = true)
    (hlen : rs.length ≤ 1048576)
    (S : Nat) (w0 : World) (hb : Below S w0 w) (hS : S ≤ B) (hB : B ≤ w.heap.size) (hSw : S ≤ w.heap.size)
    (hK : ∀ v' w', w'.ownsRow B 22 1 v' (rs ++ [r]).length (rs ++ [r]) → Below S w0 w' → wpList Try.prog ops Q rest (a.put o.dst v') w') : wpList Try.prog ops Q (o :: rest) a w := by
  obtain ⟨i0, hi, hz0, hz1, hz2⟩ := info_parts infoRow
  refine wpList_append_own_at (P := Try.prog) (w := w) hg s x 29 ho B 22 i0 (.slice none 0 0) 1 24 Try.underlying29 hi hz0 hz1 hz2 rfl (by decide) v rs.length rs hs hown ⟨g, 0, none⟩ 1 c [r] hx rfl ?_ ?_ ?_ ?_ hB ?_
  · intro j u hj
    match j, hj with
    | 0, hj => simp at hj; subst hj; simpa [Addr.add] using hc
  · intro u hu; simp at hu; subst hu; exact h1
  · unfold maxLen; omega
  · omega
  · intro v' w' hown' hgr _ hblk
    refine hK v' w' ?_ (hb.grown hgr hSw (fun k hk => Nat.le_trans hS (hown.lt k hk).1))
    rw [List.length_append]; exact hown'
theorem mbX_up (l t : List Int) (k : Nat) : (mbX l t k).Pairwise (· < ·) := List.Pairwise.filter _ List.pairwise_lt_range
/-- Rows chosen out of rows of the call's own, in an outer row made later. -/
theorem own_chosen {w3 wr : World} {B : Nat} {rs : List Value} {MR : List (List Int)} {o : Value} {xs : List Nat} (hB : B ≤ w3.heap.size) (hrs : RowsOf w3 B rs MR) (hb : Below w3.heap.size w3 wr)
    (hrow : wr.ownsRow w3.heap.size 22 1 o xs.length (xs.map (fun x => rs.getD x (.slice none 0 0)))) (hup : xs.Pairwise (· < ·)) (hlt : ∀ x ∈ xs, x < MR.length) :
    OwnR wr B o (xs.map (fun x => MR.getD x [])) := by
  have hat : ∀ i, i < xs.length → (xs.map (fun x => rs.getD x (.slice none 0 0))).getD i (.slice none 0 0) = rs.getD (xs.getD i 0) (.slice none 0 0) ∧ (xs.map (fun x => MR.getD x [])).getD i [] = MR.getD (xs.getD i 0) [] ∧ xs.getD i 0 < MR.length := fun i hi => by
    have e : xs.getD i 0 = xs[i] := by simp [List.getD, hi]
    refine ⟨?_, ?_, ?_⟩
    · rw [e]; simp [List.getD, hi]
    · rw [e]; simp [List.getD, hi]
    · rw [e]; exact hlt _ (List.getElem_mem hi)
  have hrb := hrs.below hb
  have hl : (xs.map (fun x => MR.getD x [])).length = xs.length := List.length_map _
  refine ⟨xs.map (fun x => rs.getD x (.slice none 0 0)), by rw [hl]; exact rowMono hrow hB, ⟨by rw [List.length_map, List.length_map], fun i hi => ?_, fun i j hij hj k hk hk' => ?_⟩, fun i hi k hk hk' => ?_⟩
  · rw [hl] at hi
    obtain ⟨h1, h2, h3⟩ := hat i hi
    rw [h1, h2]
    exact hrb.own _ h3
  · rw [hl] at hj
    obtain ⟨h1, h2, h3⟩ := hat i (by omega)
    obtain ⟨h4, h5, h6⟩ := hat j hj
    rw [h1] at hk
    rw [h4] at hk'
    have hlt2 : xs.getD i 0 < xs.getD j 0 := by
      have e1 : xs.getD i 0 = xs[i] := by simp [List.getD, show i < xs.length by omega]
      have e2 : xs.getD j 0 = xs[j] := by simp [List.getD, hj]
      rw [e1, e2]
      exact List.pairwise_iff_getElem.1 hup i j _ _ hij
    exact hrb.apart _ _ hlt2 h6 k hk hk'
  · rw [hl] at hi
    obtain ⟨h1, h2, h3⟩ := hat i hi
    rw [h1] at hk
    have := (hrs.lt _ h3 k hk).2
    have := (hrow.lt k hk').1
    omega
set_option maxRecDepth 100000 in
set_option maxHeartbeats 2000000 in
theorem sKeepersOf (va : Value) (l : List Int) (w : World) (hva : IS w va l) (hla : l.length ≤ 1048576) : Calls Try.prog 22 #[va] w (MakesRB w (kpF l) (ranked l)) := by
  have HG := Lib.hid (clGood_any va l w hva hla)
  unfold kpF
  cases hr : ranked l with
  | false =>
    rw [hr] at HG
    rw [if_neg (by decide)]
    clear hr hva
    go_enter Try.func22, Try.ntmps22
    go_wp2_with fail
    refine HG.out.mono ?_
    rintro e w1 ⟨rfl, hb⟩
    have B1 := Lib.hid hb
    clear hb
    go_wp2_with fail
    go_returns
    exact ⟨_, rfl, OwnR.nil _ _, B1.out⟩
  | true =>
    rw [hr] at HG
    rw [if_pos rfl]
    have hsq := (ranked_seq hr).1
    have HA := Lib.hid (apply_at l hsq)
    have HS := Lib.hid (fun k v v2 w (h1 : IS w v (clX k l)) (h2 : IS w v2 l) => l1Same_any v v2 (clX k l) l w h1 h2 (by rw [clX_len]; exact hla) hla)
    have HV := Lib.hid hva
    have HN := Lib.hid (fun k => mbX_succ l l k)
    have hlt9 : ∀ x ∈ mbX l l 64, x < 64 := fun x hx => mbX_lt l l 64 x hx
    have hup9 := mbX_up l l 64
    have HLE := Lib.hid (mbX_le l l)
    have HCM := Lib.hid clMoves_any
    have HML := Lib.hid (mvR_len 64)
    have HMA := Lib.hid (mvR_at 64)
    have HFIN : (mbX l l 64).map mvI = (mbX l l 64).map (fun x => (mvR 64).getD x []) := List.map_congr_left (fun x hx => (mvR_at 64 x (hlt9 x hx)).symm)
    rw [HFIN]
    obtain ⟨MR, hMRd⟩ : ∃ M, M = mvR 64 := ⟨_, rfl⟩
    rw [← hMRd] at HML HMA HCM ⊢
    have HLT := Lib.hid hlt9
    have HUP := Lib.hid hup9
    obtain ⟨X, hX⟩ : ∃ X, X = mbX l l := ⟨_, rfl⟩
    rw [← hX] at HN HLT HUP HLE ⊢
    have hX0 := Lib.hid (show X 0 = [] by rw [hX]; rfl)
    clear hr hva hsq hlt9 hup9 HFIN hMRd hX hla
    go_enter Try.func22, Try.ntmps22
    go_wp2_with fail
    refine HG.out.mono ?_
    rintro e w1 ⟨rfl, hb⟩
    have B1 := Lib.hid hb
    clear hb
    go_wp2_with fail
    refine (HCM.out _).mono ?_
    rintro e w3 ⟨rv, rfl, ho, hb⟩
    have B3 := Lib.hid (joins B1.out hb)
    have hor := ho.mono B1.out.size
    obtain ⟨g, cap, rfl, hg1, hg2⟩ := hor.shape (by rw [HML.out]; omega)
    obtain ⟨rs, hrow, hrs, -⟩ := hor
    rw [HML.out] at hrow
    have RS := Lib.hid hrs
    have CE := Lib.hid (fun k (hk : k < 64) => show w3.cell? ⟨g, k, none⟩ = some (rs.getD k (.slice none 0 0)) from by
      rw [hrow.cellAt k (by omega)]
      have : k < rs.length := by rw [hrs.len, HML.out]; exact hk
      simp [List.getD, this])
    have RO := Lib.hid (fun k (hk : k < 64) => show Own w3 w.heap.size (rs.getD k (.slice none 0 0)) (mvI k) from by
      have := hrs.own k (by rw [HML.out]; exact hk)
      rwa [HMA.out k hk] at this)
    have ON := Lib.hid (fun k (hk : k < 64) => (RO.out k hk).oneCell)
    clear ho hrow hrs hb hg1 hg2
    rw [HML.out]
    go_wp2_with fail
    go_loopw [12, 4] (fun i o wr => ∃ k : Nat, k ≤ 64 ∧ i = .int .i64 k ∧ wr.ownsRow w3.heap.size 22 1 o (X k).length ((X k).map (fun x => rs.getD x (.slice none 0 0))) ∧ Below w3.heap.size w3 wr) (fun i _ _ => 64 - (intOf i).toNat)
    case atStart => exact ⟨0, Nat.zero_le _, rfl, by rw [hX0.out]; exact World.ownsRow_nil _ _ _ _, Below.refl _ _⟩
    case round =>
      obtain ⟨k, hk, rfl, hrow, hbel⟩ := hrel
      have HO := Lib.hid hrow
      have HB := Lib.hid hbel
      by_cases hlt : k < 64
      · have c1 := keepc hbel (CE.out k hlt)
        have HU := Lib.hid ((RO.out k hlt).below hbel)
        have HAk := Lib.hid (HA.out k hlt)
        have HSk := Lib.hid (HS.out k)
        have HNk := Lib.hid (HN.out k)
        have OU := Lib.hid (ON.out k hlt)
        have HXL := Lib.hid (show ((X k).map (fun x => rs.getD x (.slice none 0 0))).length ≤ 1048576 by rw [List.length_map]; have := HLE.out k; omega)
        have HRC := Lib.hid (show ((X k).map (fun x => rs.getD x (.slice none 0 0))) ++ [rs.getD k (.slice none 0 0)] = (X k ++ [k]).map (fun x => rs.getD x (.slice none 0 0)) by simp)
        have HVk := Lib.hid (HV.out.below (joins B3.out hbel))
        obtain ⟨u, hu⟩ : ∃ u, u = rs.getD k (.slice none 0 0) := ⟨_, rfl⟩
        rw [← hu] at c1 HU OU HRC
        obtain ⟨ua, uc, hue⟩ := HU.out.is.sl
        have hue4 : u = .slice ua 4 uc := hue
        have h0 : (0 : Int) ≤ (k : Int) := by omega
        have h1 : (k : Int) < 64 := by omega
        clear hrow hbel hu hue
        subst hue4
        go_wp2_with fail
        refine (HAk.out _ _ _ HVk.out HU.out.is).mono ?_
        rintro e w5 ⟨s, rfl, ho, hb⟩
        have B5 := Lib.hid (joins HB.out hb)
        have O5 := Lib.hid ho
        have V5 := Lib.hid (HVk.out.below hb)
        have R5 := Lib.hid (rowBelow HO.out hb)
        clear ho hb c1
        go_wp2_with fail
        refine (HSk.out _ _ _ O5.out.is V5.out).mono ?_
        rintro e w6 ⟨rfl, hb⟩
        have B6 := Lib.hid (joins B5.out hb)
        have R6 := Lib.hid (rowBelow R5.out hb)
        clear hb
        by_cases hx : clX k l = l
        · rw [decide_eq_true hx]
          have hnx := HNk.out
          rw [if_pos hx] at hnx
          have HX := Lib.hid hnx
          clear hx hnx
          have R7 := Lib.hid (show w6.ownsRow w3.heap.size 22 1 u4 ((X k).map (fun x => rs.getD x (.slice none 0 0))).length ((X k).map (fun x => rs.getD x (.slice none 0 0))) by rw [List.length_map]; exact R6.out)
          go_wp2_with (at_builtin; refine wpList_pushV rfl _ _ rfl w3.heap.size _ ((X k).map (fun x => rs.getD x (.slice none 0 0))) rfl (R7.out.alloc _) w6.heap.size 1 (.slice ua 4 uc) rfl (by simp) OU.out HXL.out w3.heap.size w3 (belowa B6.out _) (Nat.le_refl _) (by have := B6.out.size; simp; omega) (by have := B6.out.size; simp; omega) ?_; intro v4 w4 ho4 hb4)
          go_roundw
          case rel => exact ⟨k + 1, by omega, by go_num, by rw [HX.out, ← HRC.out]; rw [HRC.out, List.length_map] at ho4; rw [HRC.out]; exact ho4, by assumption⟩
          case measure => simp [intOf]; omega
        · rw [decide_eq_false hx]
          have hnx := HNk.out
          rw [if_neg hx, List.append_nil] at hnx
          have HX := Lib.hid hnx
          clear hx hnx
          go_wp2_with fail
          go_roundw
          case rel => exact ⟨k + 1, by omega, by go_num, by rw [HX.out]; exact R6.out, B6.out⟩
          case measure => simp [intOf]; omega
      · obtain rfl : k = 64 := by omega
        have HFI := Lib.hid (own_chosen B3.out.size RS.out hbel hrow HUP.out (by rw [HML.out]; exact HLT.out))
        have HBB := Lib.hid (joins B3.out hbel)
        clear hrow hbel
        go_wp2_with fail
        go_returns
        exact ⟨_, rfl, HFI.out, HBB.out⟩

set_option maxRecDepth 100000 in
set_option maxHeartbeats 2000000 in
theorem sCountFixed (n : Int) (vm : Value) (m : List Int) (w : World) (hvm : IS w vm m) (hcm : clCap vm) : Calls Try.prog 27 #[.int .i64 n, vm] w (Ret w (.tuple #[.int .i64 (cfV9 n m), .bool (cfOk9 n m)])) := by
  have HI := Lib.hid (l1In_any n 0 5 w)
  have HM := Lib.hid (clMove_any vm m w hvm hcm)
  have hz : cfOk9 n m = false → cfV9 n m = 0 := fun h => by unfold cfV9; rw [h]; rfl
  cases hn : inB n 0 5 with
  | false =>
    have hno : cfOk9 n m = false := by unfold cfOk9; rw [hn]; rfl
    rw [hno, hz hno]
    rw [hn] at HI
    clear hz hno hn hvm hcm
    go_enter Try.func27, Try.ntmps27
    go_wp2_with fail
    refine HI.out.mono ?_
    rintro e w' ⟨rfl, rfl⟩
    go_wp2_with fail
    go_returns
    exact ⟨rfl, Below.refl _ _⟩
  | true =>
    rw [hn] at HI
    cases hm : clOk m with
    | false =>
      have hno : cfOk9 n m = false := by unfold cfOk9; rw [hn, hm]; rfl
      rw [hno, hz hno]
      rw [hm] at HM
      clear hz hno hn hm hvm hcm
      go_enter Try.func27, Try.ntmps27
      go_wp2_with fail
      refine HI.out.mono ?_
      rintro e w' ⟨rfl, rfl⟩
      go_wp2_with fail
      refine HM.out.mono ?_
      rintro e w2 ⟨rfl, hb⟩
      have B2 := Lib.hid hb
      clear hb
      go_wp2_with fail
      go_returns
      exact ⟨rfl, B2.out⟩
    | true =>
      rw [hm] at HM
      have h05 : 0 ≤ n ∧ n ≤ 5 := by unfold inB at hn; simpa using hn
      obtain ⟨N, rfl⟩ := Int.eq_ofNat_of_zero_le h05.1
      have hN : N ≤ 5 := by omega
      have hyes : cfOk9 N m = true := by unfold cfOk9; rw [hn, hm]; rfl
      have hval : cfV9 N m = ((fxC m N (pow4' N) : Nat) : Int) := by unfold cfV9; rw [hyes]; rfl
      rw [hyes, hval]
      have HW := Lib.hid (fun (k : Nat) (hk : k < pow4' N) w => phWith_any N (by omega) (k : Int) (by omega) (by have := (pow4_le' N (by omega)).2; omega) w)
      have HA := Lib.hid (fun (k : Nat) v w (h : IS w v (lowD (k : Int) N)) (h2 : IS w vm m) => clApply_any v vm (lowD (k : Int) N) m w h h2 hm (low_seq k N (by omega)))
      have HS := Lib.hid (fun (k : Nat) v v2 w (h1 : IS w v (clWith (fun a b c d => clT a b c d (lowD (k : Int) N)) m)) (h2 : IS w v2 (lowD (k : Int) N)) => l1Same_any v v2 _ (lowD (k : Int) N) w h1 h2 (by
        have := clWith_len (fun a b c d => clT a b c d (lowD (k : Int) N)) (lowD (k : Int) N) m (fun a b c d => clT_len a b c d _)
        rw [lowD_length] at this; omega) (by rw [lowD_length]; omega))
      have hsh := shl_eq' N (by omega)
      have hp := (pow4_le' N (by omega)).2
      have HST := Lib.hid (fun k => show fxC m N (k + 1) = fxC m N k + if clWith (fun a b c d => clT a b c d (lowD (k : Int) N)) m = lowD (k : Int) N then 1 else 0 from rfl)
      have HLE := Lib.hid (fxC_le m N)
      have HF0 := Lib.hid (show fxC m N 0 = 0 from rfl)
      have HVM := Lib.hid hvm
      obtain ⟨K, hK⟩ : ∃ K, K = pow4' N := ⟨_, rfl⟩
      obtain ⟨F, hF⟩ : ∃ F, F = fxC m N := ⟨_, rfl⟩
      obtain ⟨D, hD⟩ : ∃ D : Nat → List Int, D = fun k : Nat => lowD k N := ⟨_, rfl⟩
      obtain ⟨E, hE⟩ : ∃ D : Nat → List Int, D = fun k : Nat => clWith (fun a b c d => clT a b c d (lowD (k : Int) N)) m := ⟨_, rfl⟩
      have hDk : ∀ k : Nat, lowD k N = D k := fun k => by rw [hD]
      have hEk : ∀ k : Nat, clWith (fun a b c d => clT a b c d (lowD (k : Int) N)) m = E k := fun k => by rw [hE]
      simp only [hEk] at HA HS HST
      simp only [hDk] at HW HA HS HST
      rw [← hK] at HW hsh hp ⊢
      rw [← hF] at HST HLE HF0 ⊢
      clear hz hyes hval hn hm h05 hvm hcm hK hF hD hE hDk hEk
      go_enter Try.func27, Try.ntmps27
      go_wp2_with fail
      refine HI.out.mono ?_
      rintro e w' ⟨rfl, rfl⟩
      go_wp2_with fail
      refine HM.out.mono ?_
      rintro e w2 ⟨rfl, hb⟩
      have B2 := Lib.hid hb
      clear hb
      go_wp2_with fail
      go_loopw [7, 6] (fun i c wr => ∃ k : Nat, k ≤ K ∧ i = .int .i64 k ∧ c = .int .i64 (F k : Nat) ∧ Below w.heap.size w wr) (fun i _ _ => K - (intOf i).toNat)
      case atStart => exact ⟨0, Nat.zero_le _, rfl, by rw [HF0.out]; rfl, B2.out⟩
      case round =>
        obtain ⟨k, hk, rfl, rfl, hbel⟩ := hrel
        have HB := Lib.hid hbel
        clear hbel
        by_cases hlt : k < K
        · have h0 : (0 : Int) ≤ (k : Int) := by omega
          have h1 : (k : Int) < (K : Int) := by omega
          have HWk := Lib.hid (HW.out k hlt)
          have HAk := Lib.hid (HA.out k)
          have HSk := Lib.hid (HS.out k)
          have hst := HST.out k
          have hle := HLE.out k
          obtain ⟨f, hf⟩ : ∃ f, f = F k := ⟨_, rfl⟩
          rw [← hf] at hst hle ⊢
          have HSTk := Lib.hid hst
          have hf1 : (0 : Int) ≤ (f : Int) := by omega
          have hf2 : (f : Int) ≤ 65536 := by omega
          clear hst hf
          go_wp2_with fail
          refine (HWk.out _).mono ?_
          rintro e w3 ⟨s, rfl, ho, hb⟩
          have B3 := Lib.hid (joins HB.out hb)
          have O3 := Lib.hid ho
          clear ho hb
          go_wp2_with fail
          refine (HAk.out _ _ O3.out.is (HVM.out.below B3.out)).mono ?_
          rintro e w4 ⟨s2, rfl, ho, hb⟩
          have B4 := Lib.hid (joins B3.out hb)
          have O4 := Lib.hid ho
          have O34 := Lib.hid (O3.out.below hb)
          clear ho hb
          go_wp2_with fail
          refine (HSk.out _ _ _ O4.out.is O34.out.is).mono ?_
          rintro e w5 ⟨rfl, hb⟩
          have B5 := Lib.hid (joins B4.out hb)
          clear hb
          by_cases hx : E k = D k
          · rw [decide_eq_true hx]
            have hnx := HSTk.out
            rw [if_pos hx] at hnx
            have HX := Lib.hid hnx
            clear hx hnx
            go_wp2_with fail
            go_roundw
            case rel => exact ⟨k + 1, by omega, by go_num, by rw [HX.out]; go_num, B5.out⟩
            case measure => simp [intOf]; omega
          · rw [decide_eq_false hx]
            have hnx := HSTk.out
            rw [if_neg hx, Nat.add_zero] at hnx
            have HX := Lib.hid hnx
            clear hx hnx
            go_wp2_with fail
            go_roundw
            case rel => exact ⟨k + 1, by omega, by go_num, by rw [HX.out]; first | done | rfl, B5.out⟩
            case measure => simp [intOf]; omega
        · obtain rfl : k = K := by omega
          go_wp2_with fail
          go_returns
          exact ⟨rfl, HB.out⟩

set_option maxRecDepth 100000 in
set_option maxHeartbeats 2000000 in
theorem sSizesOf (va : Value) (l : List Int) (w : World) (hva : IS w va l) (hla : l.length ≤ 1048576) : Calls Try.prog 29 #[va] w (MakesB w (szF9 l) (ranked l)) := by
  have HG := Lib.hid (clGood_any va l w hva hla)
  unfold szF9
  cases hr : ranked l with
  | false =>
    rw [hr] at HG
    rw [if_neg (by decide)]
    clear hr hva
    go_enter Try.func29, Try.ntmps29
    go_wp2_with fail
    refine HG.out.mono ?_
    rintro e w1 ⟨rfl, hb⟩
    have B1 := Lib.hid hb
    clear hb
    go_wp2_with fail
    go_returns
    exact ⟨_, rfl, World.ownsRow_nil _ _ _ _, B1.out⟩
  | true =>
    rw [hr] at HG
    rw [if_pos rfl]
    obtain ⟨hsq, h15⟩ := ranked_seq hr
    have HO := Lib.hid (fun w' (h : Below w.heap.size w w') => crOwn_any va l w' (hva.below h) hsq)
    have h32 := isSeq_len hsq
    have HNO := Lib.hid (fun (u : Nat) w => phNorm_any (apS vx l l (u : Int)) (apS vy l l (u : Int)) (apS_small vx vx_one l l (u : Int) h32).1 (apS_small vx vx_one l l (u : Int) h32).2 (apS_small vy vy_one l l (u : Int) h32).1 (apS_small vy vy_one l l (u : Int) h32).2 w)
    obtain ⟨G, hG⟩ : ∃ G : Nat → Int, G = fun u : Nat => nS l (u : Int) := ⟨_, rfl⟩
    obtain ⟨X, hX⟩ : ∃ F : Nat → Int, F = fun u : Nat => apS vx l l (u : Int) := ⟨_, rfl⟩
    obtain ⟨Y, hY⟩ : ∃ F : Nat → Int, F = fun u : Nat => apS vy l l (u : Int) := ⟨_, rfl⟩
    have HN2 : ∀ (u : Nat) w, Calls Try.prog 56 #[.agg #[.int .i64 (X u), .int .i64 (Y u)]] w (Ret w (.int .i64 (G u))) := fun u w => by rw [hX, hY, hG]; exact HNO.out u w
    rw [← hX, ← hY] at HO
    rw [← hG]
    have HN := Lib.hid HN2
    obtain ⟨n, hn⟩ : ∃ n, n = l.length := ⟨_, rfl⟩
    rw [← hn] at HO h15 ⊢
    have HGS := Lib.hid (fun k => gen_succ k G)
    clear hr hva hsq hG hX hY HNO HN2 h32 hn
    go_enter Try.func29, Try.ntmps29
    go_wp2_with fail
    refine HG.out.mono ?_
    rintro e w1 ⟨rfl, hb⟩
    have B1 := Lib.hid hb
    clear hb
    go_wp2_with fail
    refine (HO.out _ B1.out).mono ?_
    rintro e w3 ⟨rv, rfl, ho, hb⟩
    have B3 := Lib.hid (joins B1.out hb)
    have his := ho.is
    have hgl : (genG n X Y).length = n := genG_length n X Y
    have hcell : ∃ a cap, rv = .slice a n cap ∧ ∀ k, k < n → ∃ b off, a = some ⟨b, off, none⟩ ∧ w3.cell? ⟨b, off + k * 2, none⟩ = some (.int .i64 (X k)) ∧ w3.cell? ⟨b, off + k * 2 + 1, none⟩ = some (.int .i64 (Y k)) := by
      rcases his with ⟨h0, a, cap, rfl⟩ | ⟨_, b, off, cap, rfl, _, hc⟩
      · have : n = 0 := by rw [← hgl, h0]; rfl
        subst this
        exact ⟨a, cap, rfl, fun k hk => absurd hk (Nat.not_lt_zero _)⟩
      · rw [hgl] at hc ⊢
        refine ⟨_, cap, rfl, fun k hk => ⟨b, off, rfl, ?_, ?_⟩⟩
        · have := (hc k hk).1
          rwa [genG_re _ _ _ _ hk] at this
        · have := (hc k hk).2
          rwa [genG_im _ _ _ _ hk] at this
    obtain ⟨pa, cap, rfl, hcc⟩ := hcell
    have CE := Lib.hid hcc
    clear ho hb his hgl hcc
    go_wp2_with fail
    go_loopw [13, 4] (fun i o wr => ∃ k : Nat, k ≤ n ∧ i = .int .i64 k ∧ Own wr w3.heap.size o (gen k G) ∧ Below w3.heap.size w3 wr) (fun i _ _ => n - (intOf i).toNat)
    case atStart => exact ⟨0, Nat.zero_le _, rfl, World.ownsRow_nil _ _ _ _, Below.refl _ _⟩
    case round =>
      obtain ⟨k, hk, rfl, hown, hbel3⟩ := hrel
      have HOW := Lib.hid hown
      by_cases hlt : k < n
      · obtain ⟨b, off, rfl, d1, d2⟩ := CE.out k hlt
        have c1 := keepc hbel3 d1
        have c2 := keepc hbel3 d2
        have h0 : (0 : Int) ≤ (k : Int) := by omega
        have h1 : (k : Int) < (n : Int) := by omega
        have HNk := Lib.hid (HN.out k)
        have HGSk := Lib.hid (HGS.out k)
        have HGL := Lib.hid (show (gen k G).length ≤ 1048576 by rw [gen_length]; omega)
        obtain ⟨x, hx⟩ : ∃ x, x = X k := ⟨_, rfl⟩
        obtain ⟨y, hy⟩ : ∃ x, x = Y k := ⟨_, rfl⟩
        obtain ⟨z, hz⟩ : ∃ x, x = G k := ⟨_, rfl⟩
        rw [← hx] at c1 HNk
        rw [← hy] at c2 HNk
        rw [← hz] at HNk HGSk
        have H3 := Lib.hid hbel3
        clear hown hbel3 d1 d2 hx hy hz
        go_wp2_with fail
        refine (HNk.out _).mono ?_
        rintro e w5 ⟨rfl, hb⟩
        have O5 := Lib.hid (show Own w5 w3.heap.size u4 (gen k G) from Own.below (by first | exact HOW.out.alloc _ | (apply Own.alloc; exact HOW.out)) hb)
        have T5 := Lib.hid (show Below w3.heap.size w3 w5 from joins (by first | exact belowa H3.out _ | go_grown) hb)
        clear hb c1 c2
        go_wp2_with (at_builtin; refine wpList_push rfl _ _ rfl w3.heap.size _ (gen k G) rfl (O5.out.alloc _) w5.heap.size 1 z rfl (by simp) HGL.out w3.heap.size w3 (T5.out.alloc T5.out.size _) (Nat.le_refl _) (by have := T5.out.size; simp; omega) (by have := T5.out.size; simp; omega) ?_; intro v2 w2 ho2 hb2)
        go_roundw
        case rel => exact ⟨k + 1, by omega, by go_num, by rw [HGSk.out]; assumption, by assumption⟩
        case measure => simp [intOf]; omega
      · obtain rfl : k = n := by omega
        have HBF := Lib.hid hbel3
        go_wp2_with fail
        go_returns
        exact ⟨_, rfl, HOW.out.mono B3.out.size, joins B3.out HBF.out⟩
end Go.Proofs.Ytcagiecgbjnefaa
