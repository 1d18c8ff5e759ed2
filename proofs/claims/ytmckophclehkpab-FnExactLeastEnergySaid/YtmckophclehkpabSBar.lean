/- The model's CountBarker and FirstBarker. -/
import Derived.Test.YtmckophclehkpabSEn
import Derived.Test.YtmckophclehkpabBarM
namespace Go.Proofs.Ytmckophclehkpab
open Go.RowKit

set_option maxHeartbeats 400000 in
theorem crSmall_any (n : Int) (w : World) : Calls Try.prog 39 #[.int .i64 n] w (Pure w (.bool (smallN n))) := by
  have h := fun w => l1In_any n 1 6 w
  rw [show inB n 1 6 = smallN n by unfold inB smallN; by_cases a : 1 ≤ n <;> by_cases b : n ≤ 6 <;> simp [a, b]] at h
  have H := Lib.hid h
  clear h
  go_enter Try.func39, Try.ntmps39
  go_wp2_with fail
  refine (H.out _).mono ?_
  rintro e w1 ⟨rfl, rfl⟩
  go_wp2_with fail
  go_returns
  exact ⟨rfl, rfl⟩

set_option maxRecDepth 100000 in
set_option maxHeartbeats 1000000 in
theorem scount (n : Int) (w : World) : Calls Try.prog 21 #[.int .i64 n] w (Ret w (.tuple #[.int .i64 (barC n), .bool (smallN n)])) := by
  have HC := crSmall_any n
  by_cases hs : smallN n = true
  · have hn : 1 ≤ n ∧ n ≤ 6 := by simpa [smallN] using hs
    obtain ⟨N, rfl⟩ := Int.eq_ofNat_of_zero_le (show 0 ≤ n by omega)
    have hN1 : 1 ≤ N := by omega
    have hN6 : N ≤ 6 := by omega
    have hb : barC N = ((barL N (pow4 N)).length : Nat) := by unfold barC; rw [hs]; rfl
    rw [hb, hs]
    rw [hs] at HC
    have HW : ∀ k : Nat, k < pow4 N → ∀ w, Calls Try.prog 40 #[.int .i64 N, .int .i64 k] w (Makes w (lowD k N)) := fun k hk w => phWith_any N (by omega) k (by omega) (by have := (pow4_le N hN6).2; omega) w
    have HB : ∀ k : Nat, ∀ v w, IS w v (lowD k N) → Calls Try.prog 37 #[v] w (Ret w (.bool (barB (lowD k N)))) := fun k v w h => crBarker_any v _ w h (lowD_seq k N (by omega))
    have hst : ∀ k, barL N (k + 1) = if barB (lowD (k : Int) N) then barL N k ++ [k] else barL N k := fun k => rfl
    obtain ⟨B, hB⟩ : ∃ B : Nat → Bool, B = fun k : Nat => barB (lowD k N) := ⟨_, rfl⟩
    obtain ⟨D, hD⟩ : ∃ D : Nat → List Int, D = fun k : Nat => lowD k N := ⟨_, rfl⟩
    have HW2 : ∀ k : Nat, k < pow4 N → ∀ w, Calls Try.prog 40 #[.int .i64 N, .int .i64 k] w (Makes w (D k)) := fun k hk w => by rw [hD]; exact HW k hk w
    have HB2 : ∀ k : Nat, ∀ v w, IS w v (D k) → Calls Try.prog 37 #[v] w (Ret w (.bool (B k))) := fun k v w h => by rw [hB]; rw [hD] at h; exact HB k v w h
    have hst2 : ∀ k, barL N (k + 1) = if B k then barL N k ++ [k] else barL N k := fun k => by rw [hB]; exact hst k
    have hp := pow4_le N hN6
    have hsh := shl_eq N hN6
    have hlen := barL_len N
    obtain ⟨K, hK⟩ : ∃ K, K = pow4 N := ⟨_, rfl⟩
    rw [← hK] at HW2 hp hsh ⊢
    obtain ⟨hp1, hp2⟩ := hp
    have HC' := Lib.hid HC
    have HW' := Lib.hid HW2
    have HB' := Lib.hid HB2
    have HST := Lib.hid hst2
    have HLEN := Lib.hid hlen
    clear HC HW HW2 HB HB2 hst hst2 hB hD hK hb hs hn hlen
    go_enter Try.func21, Try.ntmps21
    go_wp2_with fail
    refine (HC'.out _).mono ?_
    rintro e w1 ⟨rfl, rfl⟩
    go_wp2_with fail
    go_loopw [5, 4] (fun i c wr => ∃ k : Nat, k ≤ K ∧ i = .int .i64 k ∧ c = .int .i64 (((barL N k).length : Nat) : Int) ∧ Below w.heap.size w wr) (fun i _ _ => K - (intOf i).toNat)
    case atStart => exact ⟨0, Nat.zero_le _, rfl, rfl, Below.refl _ _⟩
    case round =>
      obtain ⟨k, hk, rfl, rfl, hbel⟩ := hrel
      have HBEL := Lib.hid hbel
      clear hbel
      by_cases hlt : k < K
      · have h0 : (0 : Int) ≤ (k : Int) := by omega
        have h1 : (k : Int) < (K : Int) := by omega
        have HWk := Lib.hid (HW'.out k hlt)
        have HBk := Lib.hid (HB'.out k)
        have hs := HST.out k
        have hl := HLEN.out k
        obtain ⟨Lk, hLk⟩ : ∃ L, L = barL N k := ⟨_, rfl⟩
        obtain ⟨c, hc⟩ : ∃ c, c = B k := ⟨_, rfl⟩
        rw [← hLk] at hs hl ⊢
        rw [← hc] at hs HBk
        have HS := Lib.hid hs
        clear hs hLk hc
        go_wp2_with fail
        refine (HWk.out _).mono ?_
        rintro e w2 ⟨v2, rfl, ho2, hb2⟩
        have HO2 := Lib.hid ho2
        have HBEL2 := Lib.hid (joins HBEL.out hb2)
        clear ho2 hb2
        go_wp2_with fail
        refine (HBk.out _ _ HO2.out.is).mono ?_
        rintro e w3 ⟨rfl, hb3⟩
        have HBEL3 := Lib.hid (joins HBEL2.out hb3)
        clear hb3
        cases c with
        | true =>
          go_wp2_with fail
          go_roundw
          case rel => exact ⟨k + 1, by omega, by go_num, by rw [HS.out]; simp, HBEL3.out⟩
          case measure => simp [intOf]; omega
        | false =>
          go_wp2_with fail
          go_roundw
          case rel => exact ⟨k + 1, by omega, by go_num, by rw [HS.out]; simp, HBEL3.out⟩
          case measure => simp [intOf]; omega
      · have he : k = K := by omega
        subst he
        go_wp2_with fail
        go_returns
        exact ⟨rfl, HBEL.out⟩
  · have hs2 : smallN n = false := by simpa using hs
    have hb : barC n = 0 := by unfold barC; rw [hs2]; rfl
    rw [hb, hs2]
    rw [hs2] at HC
    have HC' := Lib.hid HC
    clear HC hb hs hs2
    go_enter Try.func21, Try.ntmps21
    go_wp2_with fail
    refine (HC'.out _).mono ?_
    rintro e w1 ⟨rfl, rfl⟩
    go_wp2_with fail
    go_returns
    exact ⟨rfl, by go_grown⟩

set_option maxRecDepth 100000 in
set_option maxHeartbeats 1000000 in
theorem sfirst (n : Int) (w : World) : Calls Try.prog 23 #[.int .i64 n] w (MakesB w (barF n) (barFok n)) := by
  have HC := crSmall_any n
  by_cases hs : smallN n = true
  · have hn : 1 ≤ n ∧ n ≤ 6 := by simpa [smallN] using hs
    obtain ⟨N, rfl⟩ := Int.eq_ofNat_of_zero_le (show 0 ≤ n by omega)
    have hN1 : 1 ≤ N := by omega
    have hN6 : N ≤ 6 := by omega
    have hb1 : ∀ r t, barL N (pow4 N) = r :: t → barF N = lowD r N ∧ barFok N = true := fun r t h => by
      have e : barFok N = true := by unfold barFok barH; rw [hs, Int.toNat_natCast, h]; simp
      exact ⟨by unfold barF barH; rw [e, Int.toNat_natCast, h]; rfl, e⟩
    have hb2 : barL N (pow4 N) = [] → barF N = [] ∧ barFok N = false := fun h => by
      have e : barFok N = false := by unfold barFok barH; rw [hs, Int.toNat_natCast, h]; simp
      exact ⟨by unfold barF; rw [e]; rfl, e⟩
    rw [hs] at HC
    have HW : ∀ k : Nat, k < pow4 N → ∀ w, Calls Try.prog 40 #[.int .i64 N, .int .i64 k] w (Makes w (lowD k N)) := fun k hk w => phWith_any N (by omega) k (by omega) (by have := (pow4_le N hN6).2; omega) w
    have HB : ∀ k : Nat, ∀ v w, IS w v (lowD k N) → Calls Try.prog 37 #[v] w (Ret w (.bool (barB (lowD k N)))) := fun k v w h => crBarker_any v _ w h (lowD_seq k N (by omega))
    have hst : ∀ k, barL N (k + 1) = if barB (lowD (k : Int) N) then barL N k ++ [k] else barL N k := fun k => rfl
    obtain ⟨B, hB⟩ : ∃ B : Nat → Bool, B = fun k : Nat => barB (lowD k N) := ⟨_, rfl⟩
    obtain ⟨D, hD⟩ : ∃ D : Nat → List Int, D = fun k : Nat => lowD k N := ⟨_, rfl⟩
    have HW2 : ∀ k : Nat, k < pow4 N → ∀ w, Calls Try.prog 40 #[.int .i64 N, .int .i64 k] w (Makes w (D k)) := fun k hk w => by rw [hD]; exact HW k hk w
    have HB2 : ∀ k : Nat, ∀ v w, IS w v (D k) → Calls Try.prog 37 #[v] w (Ret w (.bool (B k))) := fun k v w h => by rw [hB]; rw [hD] at h; exact HB k v w h
    have hst2 : ∀ k, barL N (k + 1) = if B k then barL N k ++ [k] else barL N k := fun k => by rw [hB]; exact hst k
    have hp := pow4_le N hN6
    have hsh := shl_eq N hN6
    have hhd := barL_head N
    obtain ⟨K, hK⟩ : ∃ K, K = pow4 N := ⟨_, rfl⟩
    rw [← hK] at HW2 hp hsh hb1 hb2
    have hb3 : ∀ k, k < K → barL N k = [] → B k = true → barF N = D k ∧ barFok N = true := fun k hk h hB' => by
      have e : barL N (k + 1) = [k] := by rw [hst2 k, h, hB']; rfl
      obtain ⟨t', ht⟩ := hhd (K - (k + 1)) (k + 1) k [] e
      rw [show k + 1 + (K - (k + 1)) = K by omega] at ht
      rw [hD]
      exact hb1 k t' ht
    have HB3 := Lib.hid hb3
    have HB2' := Lib.hid hb2
    obtain ⟨RF, hRF⟩ : ∃ R, R = barF N := ⟨_, rfl⟩
    obtain ⟨RO, hRO⟩ : ∃ R, R = barFok N := ⟨_, rfl⟩
    rw [← hRF, ← hRO] at HB3 HB2' ⊢
    clear hhd hb1 hb2 hb3 hRF hRO
    obtain ⟨hp1, hp2⟩ := hp
    have HC' := Lib.hid HC
    have HW' := Lib.hid HW2
    have HB' := Lib.hid HB2
    have HST := Lib.hid hst2
    clear HC HW HW2 HB HB2 hst hst2 hB hD hK hs hn
    go_enter Try.func23, Try.ntmps23
    go_wp2_with fail
    refine (HC'.out _).mono ?_
    rintro e w1 ⟨rfl, rfl⟩
    go_wp2_with fail
    go_loopw [4] (fun i wr => ∃ k : Nat, k ≤ K ∧ i = .int .i64 k ∧ barL N k = [] ∧ Below w.heap.size w wr) (fun i _ => K - (intOf i).toNat)
    case atStart => exact ⟨0, Nat.zero_le _, rfl, rfl, Below.refl _ _⟩
    case round =>
      obtain ⟨k, hk, rfl, hnil, hbel⟩ := hrel
      have HBEL := Lib.hid hbel
      have HNIL := Lib.hid hnil
      clear hbel hnil
      by_cases hlt : k < K
      · have h0 : (0 : Int) ≤ (k : Int) := by omega
        have h1 : (k : Int) < (K : Int) := by omega
        have HWk := Lib.hid (HW'.out k hlt)
        have HBk := Lib.hid (HB'.out k)
        have hs := HST.out k
        rw [HNIL.out] at hs
        have h3 := HB3.out k hlt HNIL.out
        obtain ⟨c, hc⟩ : ∃ c, c = B k := ⟨_, rfl⟩
        rw [← hc] at hs HBk h3
        have HS := Lib.hid hs
        have H3 := Lib.hid h3
        clear hs hc h3
        go_wp2_with fail
        refine (HWk.out _).mono ?_
        rintro e w2 ⟨v2, rfl, ho2, hb2⟩
        have HO2 := Lib.hid ho2
        have HBEL2 := Lib.hid (joins HBEL.out hb2)
        clear ho2 hb2
        go_wp2_with fail
        refine (HBk.out _ _ HO2.out.is).mono ?_
        rintro e w3 ⟨rfl, hb3⟩
        have HBEL3 := Lib.hid (joins HBEL2.out hb3)
        cases c with
        | true =>
          have ⟨e1, e2⟩ := H3.out (by trivial)
          have E1 := Lib.hid e1
          have E2 := Lib.hid e2
          clear e1 e2
          have hO := HO2.out.below hb3
          have HO3 := Lib.hid (Own.mono hO HBEL.out.size)
          clear hO
          go_wp2_with fail
          go_returns
          exact ⟨v2, by rw [E2.out]; rfl, by rw [E1.out]; exact HO3.out, HBEL3.out⟩
        | false =>
          go_wp2_with fail
          go_roundw
          case rel => exact ⟨k + 1, by omega, by go_num, by rw [HS.out]; simp, HBEL3.out⟩
          case measure => simp [intOf]; omega
      · have he : k = K := by omega
        subst he
        have ⟨e1, e2⟩ := HB2'.out HNIL.out
        have E1 := Lib.hid e1
        have E2 := Lib.hid e2
        clear e1 e2
        go_wp2_with fail
        go_returns
        exact ⟨.slice none 0 0, by rw [E2.out]; rfl, by rw [E1.out]; exact World.ownsRow_nil _ _ _ _, HBEL.out⟩
  · have hs2 : smallN n = false := by simpa using hs
    have hb0 : barFok n = false := by unfold barFok; rw [hs2]; rfl
    have hb : barF n = [] := by unfold barF; rw [hb0]; rfl
    rw [hb, hb0]
    rw [hs2] at HC
    have HC' := Lib.hid HC
    clear HC hb hb0 hs hs2
    go_enter Try.func23, Try.ntmps23
    go_wp2_with fail
    refine (HC'.out _).mono ?_
    rintro e w1 ⟨rfl, rfl⟩
    go_wp2_with fail
    go_returns
    exact ⟨_, rfl, World.ownsRow_nil _ _ _ _, by go_grown⟩
end Go.Proofs.Ytmckophclehkpab
