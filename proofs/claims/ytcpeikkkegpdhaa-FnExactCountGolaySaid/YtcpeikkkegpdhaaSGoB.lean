/- The model's goAll, CountGolay, FirstGolay. -/
import Derived.Test.YtcpeikkkegpdhaaSGo
import Derived.Test.YtcpeikkkegpdhaaGoB
import Derived.Test.YtcpeikkkegpdhaaGsn
namespace Go.Proofs.Ytcpeikkkegpdhaa
set_option maxRecDepth 100000
open Go.RowKit

/-- The first pair found among the first k, as two lists of the call's own. -/
def Found (n B : Nat) (L : List Nat) (f s : Value) (w : World) : Prop :=
  (L = [] ∧ f = .slice none 0 0 ∧ s = .slice none 0 0) ∨
  (L ≠ [] ∧ Own w B f (gkP n L) ∧ Own w B s (gkQ n L) ∧ ∀ j, f.ownBlock = some j → s.ownBlock ≠ some j)
theorem Found.below {n B : Nat} {L : List Nat} {f s : Value} {w w' : World} (h : Found n B L f s w) (hb : Below w.heap.size w w') : Found n B L f s w' := by
  rcases h with h | ⟨h1, h2, h3, h4⟩
  · exact Or.inl h
  · exact Or.inr ⟨h1, h2.below hb, h3.below hb, h4⟩
theorem Found.more {n B : Nat} {L : List Nat} {f s : Value} {w : World} (h : Found n B L f s w) (hL : L ≠ []) (k : Nat) : Found n B (L ++ [k]) f s w := by
  rcases h with ⟨h, _⟩ | ⟨h1, h2, h3, h4⟩
  · exact absurd h hL
  · cases L with
    | nil => exact absurd rfl hL
    | cons r t => exact Or.inr ⟨by simp, h2, h3, h4⟩
theorem Found.fresh {n B B' x y K : Nat} (hK : K = pow4 n) (hy : y < K) {f s : Value} {w w1 : World} (hf : Own w B f (lowD (x : Int) n)) (hs : Own w B' s (lowD (y : Int) n)) (hf1 : Own w1 B f (lowD (x : Int) n)) (hB : w1.heap.size ≤ B') (hBB : B ≤ B') : Found n B ([] ++ [x * K + y]) f s w := by
  have hi := pair_index K x y hy
  subst hK
  refine Or.inr ⟨by simp, ?_, ?_, fun j hj hj' => ?_⟩
  · show Own w B f (lowD ((((x * pow4 n + y) / pow4 n : Nat)) : Int) n)
    rw [hi.1]; exact hf
  · show Own w B s (lowD ((((x * pow4 n + y) % pow4 n : Nat)) : Int) n)
    rw [hi.2]; exact hs.mono hBB
  · have := (hf1.lt j hj).2
    have := (hs.lt j hj').1
    omega
theorem Found.isP {n B : Nat} {L : List Nat} {f s : Value} {w : World} (h : Found n B L f s w) : Own w B f (gkP n L) ∧ Own w B s (gkQ n L) ∧ ∀ j, f.ownBlock = some j → s.ownBlock ≠ some j := by
  rcases h with ⟨rfl, rfl, rfl⟩ | ⟨_, h2, h3, h4⟩
  · exact ⟨World.ownsRow_nil _ _ _ _, World.ownsRow_nil _ _ _ _, fun j hj => by simp [Value.ownBlock] at hj⟩
  · exact ⟨h2, h3, h4⟩
/-- What the model's search leaves. -/
def AllPairs (w : World) (n : Nat) (e : Ending) (w' : World) : Prop :=
  ∃ f s, e = .returned (.tuple #[.int .i64 ((gkL n).length : Nat), f, s]) ∧ Found n w.heap.size (gkL n) f s w' ∧ Below w.heap.size w w'

theorem AllPairs.of {w w' : World} {n : Nat} {L : List Nat} {f s : Value} (hL : gkL n = L) (hf : Found n w.heap.size L f s w') (hb : Below w.heap.size w w') : AllPairs w n (.returned (.tuple #[.int .i64 (L.length : Nat), f, s])) w' := by
  subst hL
  exact ⟨f, s, rfl, hf, hb⟩
set_option maxRecDepth 100000 in
set_option maxHeartbeats 4000000 in
theorem goAll_any (N : Nat) (hN4 : N ≤ 4) (w : World) : Calls Try.prog 13 #[.int .i64 N] w (AllPairs w N) := by
  have HW : ∀ k : Nat, k < pow4 N → ∀ w, Calls Try.prog 17 #[.int .i64 N, .int .i64 k] w (Makes w (lowD k N)) := fun k hk w => phWith_any N (by omega) k (by omega) (by have := (pow4_le N (by omega)).2; omega) w
  have HB : ∀ x y : Nat, y < pow4 N → ∀ v u w, IS w v (lowD x N) → IS w u (lowD y N) → Calls Try.prog 18 #[v, u] w (Ret w (.bool (gkB N (x * pow4 N + y)))) := fun x y hy v u w hv hu => by
    have := goIs_any v u _ _ w hv hu (lowD_seq x N (by omega)) (lowD_seq y N (by omega))
    have hi := pair_index (pow4 N) x y hy
    unfold gkB
    rw [hi.1, hi.2]
    exact this
  have hp := pow4_small N hN4
  have hsh := shl_eq N (by omega)
  have hlen := selL_len (gkB N)
  have hyes := fun k (h : gkB N k = true) => selL_yes h
  have hno := fun k (h : gkB N k = false) => selL_no h
  obtain ⟨P, hP⟩ : ∃ P, P = gkB N := ⟨_, rfl⟩
  have hL : gkL N = selL P (pow4 N * pow4 N) := by rw [hP]; rfl
  rw [← hP] at HB hlen hyes hno
  obtain ⟨K, hK⟩ : ∃ K, K = pow4 N := ⟨_, rfl⟩
  rw [← hK] at HW HB hp hsh
  obtain ⟨hp1, hp2⟩ := hp
  rw [← hK] at hL
  have HK := Lib.hid hK
  have HL := Lib.hid hL
  have HW' := Lib.hid HW
  have HB' := Lib.hid HB
  have HLEN := Lib.hid hlen
  have HYES := Lib.hid hyes
  have HNO := Lib.hid hno
  clear HW HB hlen hyes hno hP hL hK
  go_enter Try.func13, Try.ntmps13
  go_wp2_with fail
  go_loopw [8, 5, 6, 7] (fun i c f s wr => ∃ x : Nat, x ≤ K ∧ i = .int .i64 x ∧ c = .int .i64 (((selL P (x * K)).length : Nat) : Int) ∧ Found N w.heap.size (selL P (x * K)) f s wr ∧ Below w.heap.size w wr) (fun i _ _ _ _ => K - (intOf i).toNat)
  case atStart => exact ⟨0, Nat.zero_le _, rfl, by rw [Nat.zero_mul]; rfl, by rw [Nat.zero_mul]; exact Or.inl ⟨rfl, rfl, rfl⟩, Below.refl _ _⟩
  case round =>
    obtain ⟨x, hx, rfl, rfl, hfo, hbel⟩ := hrel
    have HF := Lib.hid hfo
    have HBEL := Lib.hid hbel
    clear hfo hbel
    by_cases hlt : x < K
    · have h0 : (0 : Int) ≤ (x : Int) := by omega
      have h1 : (x : Int) < (K : Int) := by omega
      have HWx := Lib.hid (HW'.out x hlt)
      have HBx := Lib.hid (HB'.out x)
      obtain ⟨C0, hC0⟩ : ∃ C : Nat, C = (selL P (x * K)).length := ⟨_, rfl⟩
      rw [← hC0]
      have HC0 := Lib.hid hC0
      clear hC0
      go_wp2_with fail
      refine (HWx.out _).mono ?_
      rintro e w2 ⟨va, rfl, ho2, hb2⟩
      have HF2 := Lib.hid (HF.out.below hb2)
      have HA2 := Lib.hid (Own.mono ho2 HBEL.out.size)
      have HBEL2 := Lib.hid (joins HBEL.out hb2)
      clear ho2 hb2
      go_wp2_with fail
      go_loopw [10, 5, 6, 7] (fun i c f s wr => ∃ y : Nat, y ≤ K ∧ i = .int .i64 y ∧ c = .int .i64 (((selL P (x * K + y)).length : Nat) : Int) ∧ Found N w.heap.size (selL P (x * K + y)) f s wr ∧ Own wr w.heap.size va (lowD (x : Int) N) ∧ Below w.heap.size w wr) (fun i _ _ _ _ => K - (intOf i).toNat)
      case atStart => exact ⟨0, Nat.zero_le _, rfl, by rw [Nat.add_zero, ← HC0.out], by rw [Nat.add_zero]; exact HF2.out, HA2.out, HBEL2.out⟩
      case round =>
        obtain ⟨y, hy, rfl, rfl, hfo, hoa, hbel⟩ := hrel
        have HF := Lib.hid hfo
        have HA := Lib.hid hoa
        have HBEL := Lib.hid hbel
        clear hfo hoa hbel
        by_cases hylt : y < K
        · have h2 : (0 : Int) ≤ (y : Int) := by omega
          have h3 : (y : Int) < (K : Int) := by omega
          have HWy := Lib.hid (HW'.out y hylt)
          have HBy := Lib.hid (HBx.out y hylt)
          have hye := HYES.out (x * K + y)
          have hnn := HNO.out (x * K + y)
          have hle := HLEN.out (x * K + y)
          have hxk : x * K ≤ 65536 := by
            have := Nat.mul_le_mul (show x ≤ 256 by omega) hp2
            omega
          obtain ⟨L, hL⟩ : ∃ L, L = selL P (x * K + y) := ⟨_, rfl⟩
          rw [← hL] at HF hye hnn hle ⊢
          obtain ⟨b, hb⟩ : ∃ b, b = P (x * K + y) := ⟨_, rfl⟩
          rw [← hb] at HBy hye hnn
          have hlen : L.length ≤ 100000 := by omega
          have HYE := Lib.hid hye
          have HNN := Lib.hid hnn
          clear hye hnn hle hL hb hxk
          go_wp2_with fail
          refine (HWy.out _).mono ?_
          rintro e w3 ⟨vb, rfl, ho3, hb3⟩
          have HF3 := Lib.hid (HF.out.below hb3)
          have HA3 := Lib.hid (HA.out.below hb3)
          have HV3 := Lib.hid ho3
          have HS3 := Lib.hid HBEL.out.size
          have HBEL3 := Lib.hid (joins HBEL.out hb3)
          clear ho3 hb3
          go_wp2_with fail
          refine (HBy.out _ _ _ HA3.out.is HV3.out.is).mono ?_
          rintro e w4 ⟨rfl, hb4⟩
          have HF4 := Lib.hid (HF3.out.below hb4)
          have HA4 := Lib.hid (HA3.out.below hb4)
          have HV4 := Lib.hid (HV3.out.below hb4)
          have HBEL4 := Lib.hid (joins HBEL3.out hb4)
          clear hb4
          cases b with
          | true =>
            have hye := HYE.out rfl
            have HYE2 := Lib.hid hye
            clear hye
            by_cases hnil : L = []
            · subst hnil
              have HFR := Lib.hid (Found.fresh HK.out hylt HA4.out HV4.out HA.out (Nat.le_refl _) HS3.out)
              go_wp2_with fail
              go_roundw
              case rel => exact ⟨y + 1, by omega, by go_num, by rw [show x * K + (y + 1) = x * K + y + 1 from rfl, HYE2.out]; rfl, by rw [show x * K + (y + 1) = x * K + y + 1 from rfl, HYE2.out]; exact HFR.out, HA4.out, HBEL4.out⟩
              case measure => simp [intOf]; omega
            · have hlp : 0 < L.length := List.length_pos_iff.2 hnil
              have HFR := Lib.hid (HF4.out.more hnil (x * K + y))
              obtain ⟨c, hc⟩ : ∃ c, c = L.length := ⟨_, rfl⟩
              rw [← hc] at hlp hlen ⊢
              have HC := Lib.hid hc
              have h4 : ((c : Int) == 0) = false := by simp; omega
              have h5 : ¬ (c : Int) = 0 := by omega
              clear hc hnil
              go_wp2_with fail
              go_roundw
              case rel => exact ⟨y + 1, by omega, by go_num, by rw [show x * K + (y + 1) = x * K + y + 1 from rfl, HYE2.out, List.length_append, ← HC.out]; rfl, by rw [show x * K + (y + 1) = x * K + y + 1 from rfl, HYE2.out]; exact HFR.out, HA4.out, HBEL4.out⟩
              case measure => simp [intOf]; omega
          | false =>
            have hnn := HNN.out rfl
            have HNN2 := Lib.hid hnn
            clear hnn
            go_wp2_with fail
            go_roundw
            case rel => exact ⟨y + 1, by omega, by go_num, by rw [show x * K + (y + 1) = x * K + y + 1 from rfl, HNN2.out], by rw [show x * K + (y + 1) = x * K + y + 1 from rfl, HNN2.out]; exact HF4.out, HA4.out, HBEL4.out⟩
            case measure => simp [intOf]; omega
        · have he : y = K := by omega
          subst he
          have hn : x * y + y = (x + 1) * y := by rw [Nat.add_mul, Nat.one_mul]
          have HN := Lib.hid hn
          obtain ⟨C1, hC1⟩ : ∃ C : Nat, C = (selL P (x * y + y)).length := ⟨_, rfl⟩
          rw [← hC1]
          have HC1 := Lib.hid hC1
          clear hn hC1
          go_wp2_with fail
          go_roundw
          case rel => exact ⟨x + 1, by omega, by go_num, by rw [HC1.out, HN.out], by rw [← HN.out]; exact HF.out, HBEL.out⟩
          case measure => simp [intOf]; omega
    · have he : x = K := by omega
      subst he
      go_wp2_with fail
      go_returns
      exact AllPairs.of HL.out HF.out HBEL.out

theorem smallG_in (n : Int) (w : World) : Calls Try.prog 12 #[.int .i64 n, .int .i64 1, .int .i64 4] w (Pure w (.bool (smallG n))) := by
  have h := l1In_any n 1 4 w
  rwa [show inB n 1 4 = smallG n by unfold inB smallG; by_cases a : 1 ≤ n <;> by_cases b : n ≤ 4 <;> simp [a, b]] at h
set_option maxHeartbeats 1000000 in
theorem scountGolay (n : Int) (w : World) : Calls Try.prog 5 #[.int .i64 n] w (Ret w (.tuple #[.int .i64 (gkC n), .bool (smallG n)])) := by
  have HC := smallG_in n
  by_cases hs : smallG n = true
  · have hn : 1 ≤ n ∧ n ≤ 4 := by simpa [smallG] using hs
    obtain ⟨N, rfl⟩ := Int.eq_ofNat_of_zero_le (show 0 ≤ n by omega)
    have HA := goAll_any N (by omega)
    have hc : gkC N = ((gkL N).length : Nat) := by unfold gkC; rw [hs]; rfl
    rw [hc, hs]
    simp only [hs] at HC
    have HC' := Lib.hid HC
    have HA' := Lib.hid HA
    obtain ⟨C, hC⟩ : ∃ C : Nat, C = (gkL N).length := ⟨_, rfl⟩
    rw [← hC]
    have HCC := Lib.hid hC
    clear HC HA hC hc hs hn
    go_enter Try.func5, Try.ntmps5
    go_wp2_with fail
    refine (HC'.out _).mono ?_
    rintro e w1 ⟨rfl, rfl⟩
    go_wp2_with fail
    refine (HA'.out _).mono ?_
    rintro e w2 ⟨f, s, rfl, hf, hb⟩
    rw [← HCC.out]
    clear hf
    go_wp2_with fail
    go_returns
    exact ⟨rfl, hb⟩
  · have hs2 : smallG n = false := by simpa using hs
    have hc : gkC n = 0 := by unfold gkC; rw [hs2]; rfl
    rw [hc, hs2]
    simp only [hs2] at HC
    have HC' := Lib.hid HC
    clear HC hc hs hs2
    go_enter Try.func5, Try.ntmps5
    go_wp2_with fail
    refine (HC'.out _).mono ?_
    rintro e w1 ⟨rfl, rfl⟩
    go_wp2_with fail
    go_returns
    exact ⟨rfl, by go_grown⟩
set_option maxHeartbeats 1000000 in
theorem sfirstGolay (n : Int) (w : World) : Calls Try.prog 7 #[.int .i64 n] w (Makes2B w (gk1 n) (gk2 n) (smallG n)) := by
  have HC := smallG_in n
  by_cases hs : smallG n = true
  · have hn : 1 ≤ n ∧ n ≤ 4 := by simpa [smallG] using hs
    obtain ⟨N, rfl⟩ := Int.eq_ofNat_of_zero_le (show 0 ≤ n by omega)
    have HA := goAll_any N (by omega)
    have h1 : gk1 N = gkP N (gkL N) := by unfold gk1; rw [hs]; rfl
    have h2 : gk2 N = gkQ N (gkL N) := by unfold gk2; rw [hs]; rfl
    rw [h1, h2, hs]
    simp only [hs] at HC
    have HC' := Lib.hid HC
    have HA' := Lib.hid HA
    clear HC HA h1 h2 hs hn
    go_enter Try.func7, Try.ntmps7
    go_wp2_with fail
    refine (HC'.out _).mono ?_
    rintro e w1 ⟨rfl, rfl⟩
    go_wp2_with fail
    refine (HA'.out _).mono ?_
    rintro e w2 ⟨f, s, rfl, hf, hb⟩
    have HF := Lib.hid hf.isP
    clear hf
    go_wp2_with fail
    go_returns
    exact ⟨f, s, rfl, HF.out.1, HF.out.2.1, HF.out.2.2, hb⟩
  · have hs2 : smallG n = false := by simpa using hs
    have h1 : gk1 n = [] := by unfold gk1; rw [hs2]; rfl
    have h2 : gk2 n = [] := by unfold gk2; rw [hs2]; rfl
    rw [h1, h2, hs2]
    simp only [hs2] at HC
    have HC' := Lib.hid HC
    clear HC h1 h2 hs hs2
    go_enter Try.func7, Try.ntmps7
    go_wp2_with fail
    refine (HC'.out _).mono ?_
    rintro e w1 ⟨rfl, rfl⟩
    go_wp2_with fail
    go_returns
    exact ⟨_, _, rfl, World.ownsRow_nil _ _ _ _, World.ownsRow_nil _ _ _ _, fun k h => by simp [Value.ownBlock] at h, by go_grown⟩
end Go.Proofs.Ytcpeikkkegpdhaa
