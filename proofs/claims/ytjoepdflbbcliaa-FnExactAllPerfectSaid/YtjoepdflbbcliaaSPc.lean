/- The model's peAll, CountPerfect, AllPerfect and FirstPerfect. -/
import Derived.Test.YtjoepdflbbcliaaSPf
import Derived.Test.YtjoepdflbbcliaaSCr
import Derived.Test.YtjoepdflbbcliaaRw
import Derived.Test.YtjoepdflbbcliaaPcM
namespace Go.Proofs.Ytjoepdflbbcliaa
set_option maxRecDepth 100000
open Go.RowKit

/-- The sequences of these ranks. -/
def rkS (N : Nat) (rs : List Nat) : List (List Int) := rs.map (fun r : Nat => lowD (r : Int) N)
theorem rkS_len (N : Nat) (rs : List Nat) : (rkS N rs).length = rs.length := by simp [rkS]

set_option maxHeartbeats 400000 in
theorem crSmall6 (n : Int) (w : World) : Calls Try.prog 37 #[.int .i64 n] w (Pure w (.bool (small6 n))) := by
  have h := fun w => l1In_any n 1 6 w
  rw [show inB n 1 6 = small6 n by unfold inB small6; by_cases a : 1 ≤ n <;> by_cases b : n ≤ 6 <;> simp [a, b]] at h
  have H := Lib.hid h
  clear h
  go_enter Try.func37, Try.ntmps37
  go_wp2_with fail
  refine (H.out _).mono ?_
  rintro e w1 ⟨rfl, rfl⟩
  go_wp2_with fail
  go_returns
  exact ⟨rfl, rfl⟩

set_option maxRecDepth 100000 in
set_option maxHeartbeats 1000000 in
theorem peAll_any (N : Nat) (hN : N ≤ 6) (w : World) : Calls Try.prog 38 #[.int .i64 N] w (MakesR w (rkS N (pcH N))) := by
  have HW2 : ∀ k : Nat, k < pow4' N → ∀ w, Calls Try.prog 44 #[.int .i64 N, .int .i64 k] w (Makes w (lowD k N)) := fun k hk w => phWith_any N (by omega) k (by omega) (by have := (pow4_le' N (by omega)).2; omega) w
  have HB2 : ∀ k : Nat, ∀ v w, IS w v (lowD k N) → Calls Try.prog 34 #[v] w (Ret w (.bool (pcB N k))) := fun k v w h => pePerfect_any v _ w h (low_seq k N (by omega))
  have hst : ∀ k, rkL (pcB N) (k + 1) = if pcB N k then rkL (pcB N) k ++ [k] else rkL (pcB N) k := fun k => rfl
  have hrs : ∀ rs (k : Nat), rkS N (rs ++ [k]) = rkS N rs ++ [lowD (k : Int) N] := fun rs k => by simp [rkS]
  have hlen : ∀ k, (rkS N (rkL (pcB N) k)).length ≤ k := fun k => by rw [rkS_len]; exact rkL_len _ k
  have hsh := shl_eq' N (by omega)
  have hp := (pow4_le' N (by omega)).2
  unfold pcH
  obtain ⟨B, hB⟩ : ∃ B, B = pcB N := ⟨_, rfl⟩
  obtain ⟨D, hD⟩ : ∃ D : Nat → List Int, D = fun k : Nat => lowD k N := ⟨_, rfl⟩
  obtain ⟨R, hR⟩ : ∃ R, R = rkS N := ⟨_, rfl⟩
  obtain ⟨K, hK⟩ : ∃ K, K = pow4' N := ⟨_, rfl⟩
  have hDk : ∀ k : Nat, lowD k N = D k := fun k => by rw [hD]
  simp only [hDk] at HW2 HB2 hrs
  rw [← hB] at HB2 hst hlen ⊢
  rw [← hR] at hrs hlen ⊢
  rw [← hK] at HW2 hp hsh ⊢
  have HN0 := Lib.hid (show R [] = [] by rw [hR]; rfl)
  have HW := Lib.hid HW2
  have HBB := Lib.hid HB2
  have HST := Lib.hid hst
  have HRS := Lib.hid hrs
  have HLEN := Lib.hid hlen
  clear HW2 HB2 hst hrs hlen hB hD hR hK hDk
  go_enter Try.func38, Try.ntmps38
  go_wp2_with fail
  go_loopw [4, 3] (fun x o wr => ∃ k : Nat, k ≤ K ∧ x = .int .i64 k ∧ OwnR wr w.heap.size o (R (rkL B k)) ∧ Below w.heap.size w wr) (fun x _ _ => K - (intOf x).toNat)
  case atStart => exact ⟨0, Nat.zero_le _, rfl, by rw [show rkL B 0 = [] from rfl, HN0.out]; exact OwnR.nil _ _, Below.refl _ _⟩
  case round =>
    obtain ⟨k, hk, rfl, hown, hbel⟩ := hrel
    have HB := Lib.hid hbel
    have HO := Lib.hid hown
    clear hown hbel
    by_cases hlt : k < K
    · have h0 : (0 : Int) ≤ (k : Int) := by omega
      have h1 : (k : Int) < (K : Int) := by omega
      have HWk := Lib.hid (HW.out k hlt)
      have HBk := Lib.hid (HBB.out k)
      have hs := HST.out k
      have hr := HRS.out (rkL B k) k
      have HGL := Lib.hid (show (R (rkL B k)).length ≤ 1048576 by have := HLEN.out k; omega)
      obtain ⟨c, hc⟩ : ∃ c, c = B k := ⟨_, rfl⟩
      obtain ⟨l, hl⟩ : ∃ l, l = D k := ⟨_, rfl⟩
      rw [← hc] at hs HBk
      rw [← hl] at HWk HBk hr
      have HS := Lib.hid hs
      have HR := Lib.hid hr
      clear hs hr hc hl
      go_wp2_with fail
      refine (HWk.out _).mono ?_
      rintro e w2 ⟨r, rfl, hor, hb2⟩
      obtain ⟨ra, rc, hre⟩ := hor.is.sl
      subst hre
      have HOR := Lib.hid hor
      have HB2 := Lib.hid hb2
      clear hor hb2
      go_wp2_with fail
      refine (HBk.out _ _ HOR.out.is).mono ?_
      rintro e w3 ⟨rfl, hb3⟩
      have HB3 := Lib.hid hb3
      clear hb3
      cases c with
      | true =>
        go_wp2_with (at_builtin; refine wpList_pushR rfl _ _ rfl w.heap.size _ (R (rkL B k)) rfl wr HO.out ((joins HB2.out HB3.out).alloc (joins HB2.out HB3.out).size _) w3.heap.size 1 _ l rfl (by simp) ((HOR.out.below HB3.out).alloc _) HGL.out w.heap.size w (belowa (joins HB.out (joins HB2.out HB3.out)) _) (Nat.le_refl _) HB.out.size (by have := HB.out.size; have := HB2.out.size; have := HB3.out.size; simp; omega) ?_; intro v4 w4 ho4 hb4)
        go_roundw
        case rel => exact ⟨k + 1, by omega, by go_num, by rw [HS.out, if_pos trivial, HR.out]; assumption, by assumption⟩
        case measure => simp [intOf]; omega
      | false =>
        go_wp2_with fail
        go_roundw
        case rel => exact ⟨k + 1, by omega, by go_num, by rw [HS.out, if_neg (by decide)]; exact HO.out.below (joins HB2.out HB3.out), joins HB.out (joins HB2.out HB3.out)⟩
        case measure => simp [intOf]; omega
    · obtain rfl : k = K := by omega
      go_wp2_with fail
      go_returns
      exact ⟨_, rfl, HO.out, HB.out⟩

set_option maxHeartbeats 1000000 in
theorem scountPerfect (n : Int) (w : World) : Calls Try.prog 14 #[.int .i64 n] w (Ret w (.tuple #[.int .i64 (pcC n), .bool (small6 n)])) := by
  have HC := Lib.hid (crSmall6 n)
  cases hs : small6 n with
  | true =>
    rw [hs] at HC
    have hn : 1 ≤ n ∧ n ≤ 6 := by simpa [small6] using hs
    obtain ⟨N, rfl⟩ := Int.eq_ofNat_of_zero_le (show 0 ≤ n by omega)
    have HA := Lib.hid (fun w => peAll_any N (by omega) w)
    have hb : pcC N = ((rkS N (pcH N)).length : Nat) := by unfold pcC; rw [hs, rkS_len]; rfl
    rw [hb]
    obtain ⟨L, hL⟩ : ∃ L, L = rkS N (pcH N) := ⟨_, rfl⟩
    rw [← hL] at HA ⊢
    clear hs hn hb hL
    go_enter Try.func14, Try.ntmps14
    go_wp2_with fail
    refine (HC.out _).mono ?_
    rintro e w1 ⟨rfl, rfl⟩
    go_wp2_with fail
    refine (HA.out _).mono ?_
    rintro e w2 ⟨v, rfl, ho, hb⟩
    obtain ⟨a, cap, rfl⟩ := ho.is.slice
    have HB := Lib.hid hb
    clear hb
    go_wp2_with fail
    go_returns
    exact ⟨rfl, HB.out⟩
  | false =>
    rw [hs] at HC
    have hb : pcC n = 0 := by unfold pcC; rw [hs]; rfl
    rw [hb]
    clear hs hb
    go_enter Try.func14, Try.ntmps14
    go_wp2_with fail
    refine (HC.out _).mono ?_
    rintro e w1 ⟨rfl, rfl⟩
    go_wp2_with fail
    go_returns
    exact ⟨rfl, by go_grown⟩

set_option maxHeartbeats 1000000 in
theorem sallPerfect (n : Int) (w : World) : Calls Try.prog 16 #[.int .i64 n] w (MakesRB w (pcA n) (small6 n)) := by
  have HC := Lib.hid (crSmall6 n)
  cases hs : small6 n with
  | true =>
    rw [hs] at HC
    have hn : 1 ≤ n ∧ n ≤ 6 := by simpa [small6] using hs
    obtain ⟨N, rfl⟩ := Int.eq_ofNat_of_zero_le (show 0 ≤ n by omega)
    have HA := Lib.hid (fun w => peAll_any N (by omega) w)
    have hb : pcA N = rkS N (pcH N) := by unfold pcA; rw [hs]; rfl
    rw [hb]
    obtain ⟨L, hL⟩ : ∃ L, L = rkS N (pcH N) := ⟨_, rfl⟩
    rw [← hL] at HA ⊢
    clear hs hn hb hL
    go_enter Try.func16, Try.ntmps16
    go_wp2_with fail
    refine (HC.out _).mono ?_
    rintro e w1 ⟨rfl, rfl⟩
    go_wp2_with fail
    refine (HA.out _).mono ?_
    rintro e w2 ⟨v, rfl, ho, hb⟩
    have HB := Lib.hid hb
    have HO := Lib.hid ho
    clear hb ho
    go_wp2_with fail
    go_returns
    exact ⟨v, rfl, HO.out, HB.out⟩
  | false =>
    rw [hs] at HC
    have hb : pcA n = [] := by unfold pcA; rw [hs]; rfl
    rw [hb]
    clear hs hb
    go_enter Try.func16, Try.ntmps16
    go_wp2_with fail
    refine (HC.out _).mono ?_
    rintro e w1 ⟨rfl, rfl⟩
    go_wp2_with fail
    go_returns
    exact ⟨_, rfl, OwnR.nil _ _, by go_grown⟩

set_option maxRecDepth 100000 in
set_option maxHeartbeats 1000000 in
theorem sfirstPerfect (n : Int) (w : World) : Calls Try.prog 21 #[.int .i64 n] w (MakesB w (pcF n) (pcFok n)) := by
  have HC : ∀ w, Calls Try.prog 43 #[.int .i64 n, .int .i64 1, .int .i64 8] w (Pure w (.bool (small8 n))) := fun w => by
    have h := l1In_any n 1 8 w
    rwa [show inB n 1 8 = small8 n by unfold inB small8; by_cases a : 1 ≤ n <;> by_cases b : n ≤ 8 <;> simp [a, b]] at h
  by_cases hs : small8 n = true
  · have hn : 1 ≤ n ∧ n ≤ 8 := by simpa [small8] using hs
    obtain ⟨N, rfl⟩ := Int.eq_ofNat_of_zero_le (show 0 ≤ n by omega)
    have hN8 : N ≤ 8 := by omega
    have hb1 : ∀ r t, rkL (pcB N) (pow4' N) = r :: t → pcF N = lowD r N ∧ pcFok N = true := fun r t h => by
      have e : pcFok N = true := by unfold pcFok pcH; rw [hs, Int.toNat_natCast, h]; simp
      exact ⟨by unfold pcF pcH; rw [e, Int.toNat_natCast, h]; rfl, e⟩
    have hb2 : rkL (pcB N) (pow4' N) = [] → pcF N = [] ∧ pcFok N = false := fun h => by
      have e : pcFok N = false := by unfold pcFok pcH; rw [hs, Int.toNat_natCast, h]; simp
      exact ⟨by unfold pcF; rw [e]; rfl, e⟩
    rw [hs] at HC
    have HW2 : ∀ k : Nat, k < pow4' N → ∀ w, Calls Try.prog 44 #[.int .i64 N, .int .i64 k] w (Makes w (lowD k N)) := fun k hk w => phWith_any N (by omega) k (by omega) (by have := (pow4_le' N (by omega)).2; omega) w
    have HB2 : ∀ k : Nat, ∀ v w, IS w v (lowD k N) → Calls Try.prog 34 #[v] w (Ret w (.bool (pcB N k))) := fun k v w h => pePerfect_any v _ w h (low_seq k N (by omega))
    have hst2 : ∀ k, rkL (pcB N) (k + 1) = if pcB N k then rkL (pcB N) k ++ [k] else rkL (pcB N) k := fun k => rfl
    have hhd := rkL_head (pcB N)
    have hsh := shl_eq' N hN8
    have hp := (pow4_le' N hN8).2
    obtain ⟨B, hB⟩ : ∃ B, B = pcB N := ⟨_, rfl⟩
    obtain ⟨D, hD⟩ : ∃ D : Nat → List Int, D = fun k : Nat => lowD k N := ⟨_, rfl⟩
    have hDk : ∀ k : Nat, lowD k N = D k := fun k => by rw [hD]
    simp only [hDk] at HW2 HB2 hb1
    rw [← hB] at HB2 hst2 hhd hb1 hb2
    obtain ⟨K, hK⟩ : ∃ K, K = pow4' N := ⟨_, rfl⟩
    rw [← hK] at HW2 hp hsh hb1 hb2
    have hb3 : ∀ k, k < K → rkL B k = [] → B k = true → pcF N = D k ∧ pcFok N = true := fun k hk h hB' => by
      have e : rkL B (k + 1) = [k] := by rw [hst2 k, h, hB']; rfl
      obtain ⟨t', ht⟩ := hhd (K - (k + 1)) (k + 1) k [] e
      rw [show k + 1 + (K - (k + 1)) = K by omega] at ht
      exact hb1 k t' ht
    have HB3 := Lib.hid hb3
    have HB2' := Lib.hid hb2
    obtain ⟨RF, hRF⟩ : ∃ R, R = pcF N := ⟨_, rfl⟩
    obtain ⟨RO, hRO⟩ : ∃ R, R = pcFok N := ⟨_, rfl⟩
    rw [← hRF, ← hRO] at HB3 HB2' ⊢
    clear hhd hb1 hb2 hb3 hRF hRO
    have HC' := Lib.hid HC
    have HW' := Lib.hid HW2
    have HB' := Lib.hid HB2
    have HST := Lib.hid hst2
    clear HC HW2 HB2 hst2 hB hD hK hs hn hDk
    go_enter Try.func21, Try.ntmps21
    go_wp2_with fail
    refine (HC'.out _).mono ?_
    rintro e w1 ⟨rfl, rfl⟩
    go_wp2_with fail
    go_loopw [4] (fun i wr => ∃ k : Nat, k ≤ K ∧ i = .int .i64 k ∧ rkL B k = [] ∧ Below w.heap.size w wr) (fun i _ => K - (intOf i).toNat)
    case atStart => exact ⟨0, Nat.zero_le _, rfl, rfl, Below.refl _ _⟩
    case round =>
      obtain ⟨k, hk, rfl, hnil, hbel⟩ := hrel
      have HBEL := Lib.hid hbel
      have HNIL := Lib.hid hnil
      clear hbel hnil
      by_cases hlt : k < K
      · have h0 : (0 : Int) ≤ (k : Int) := by omega
        have h1 : (k : Int) < (K : Int) := by omega
        have HWk := Lib.hid (HW'.out k hlt)
        have HBk := Lib.hid (HB'.out k)
        have hs := HST.out k
        rw [HNIL.out] at hs
        have h3 := HB3.out k hlt HNIL.out
        obtain ⟨c, hc⟩ : ∃ c, c = B k := ⟨_, rfl⟩
        rw [← hc] at hs HBk h3
        have HS := Lib.hid hs
        have H3 := Lib.hid h3
        clear hs hc h3
        go_wp2_with fail
        refine (HWk.out _).mono ?_
        rintro e w2 ⟨v2, rfl, ho2, hb2⟩
        have HO2 := Lib.hid ho2
        have HBEL2 := Lib.hid (joins HBEL.out hb2)
        clear ho2 hb2
        go_wp2_with fail
        refine (HBk.out _ _ HO2.out.is).mono ?_
        rintro e w3 ⟨rfl, hb3⟩
        have HBEL3 := Lib.hid (joins HBEL2.out hb3)
        cases c with
        | true =>
          have ⟨e1, e2⟩ := H3.out (by trivial)
          have E1 := Lib.hid e1
          have E2 := Lib.hid e2
          clear e1 e2
          have hO := HO2.out.below hb3
          have HO3 := Lib.hid (Own.mono hO HBEL.out.size)
          clear hO
          go_wp2_with fail
          go_returns
          exact ⟨v2, by rw [E2.out]; rfl, by rw [E1.out]; exact HO3.out, HBEL3.out⟩
        | false =>
          go_wp2_with fail
          go_roundw
          case rel => exact ⟨k + 1, by omega, by go_num, by rw [HS.out]; simp, HBEL3.out⟩
          case measure => simp [intOf]; omega
      · have he : k = K := by omega
        subst he
        have ⟨e1, e2⟩ := HB2'.out HNIL.out
        have E1 := Lib.hid e1
        have E2 := Lib.hid e2
        clear e1 e2
        go_wp2_with fail
        go_returns
        exact ⟨.slice none 0 0, by rw [E2.out]; rfl, by rw [E1.out]; exact World.ownsRow_nil _ _ _ _, HBEL.out⟩
  · have hs2 : small8 n = false := by simpa using hs
    have hb0 : pcFok n = false := by unfold pcFok; rw [hs2]; rfl
    have hb : pcF n = [] := by unfold pcF; rw [hb0]; rfl
    rw [hb, hb0]
    rw [hs2] at HC
    have HC' := Lib.hid HC
    clear HC hb hb0 hs hs2
    go_enter Try.func21, Try.ntmps21
    go_wp2_with fail
    refine (HC'.out _).mono ?_
    rintro e w1 ⟨rfl, rfl⟩
    go_wp2_with fail
    go_returns
    exact ⟨_, rfl, World.ownsRow_nil _ _ _ _, by go_grown⟩
end Go.Proofs.Ytjoepdflbbcliaa
