/- The program's CountPerfect. -/
import Derived.Test.YtjoepdflbbcliaaIPs
namespace Go.Proofs.Ytjoepdflbbcliaa
set_option maxRecDepth 100000
open Go.RowKit

theorem isSearched6 (n : Int) (w : World) : Calls Try.prog 39 #[.int .i64 n] w (Pure w (.bool (small6 n))) := by
  go_enter Try.func39, Try.ntmps39
  go_wp2
  all_goals
    go_returns
    exact ⟨ret_bool (by unfold small6; simp <;> omega), rfl⟩

set_option maxHeartbeats 1000000 in
theorem icountPerfect (n : Int) (w : World) : Calls Try.prog 15 #[.int .i64 n] w (Ret w (.tuple #[.int .i64 (pcC n), .bool (small6 n)])) := by
  have HC := Lib.hid (isSearched6 n)
  cases hs : small6 n with
  | true =>
    rw [hs] at HC
    have hn : 1 ≤ n ∧ n ≤ 6 := by simpa [small6] using hs
    obtain ⟨N, rfl⟩ := Int.eq_ofNat_of_zero_le (show 0 ≤ n by omega)
    have HA := Lib.hid (fun w => perfectSeqs_any N w)
    have HB := Lib.hid (fun Bs Bw Bn w h1 h2 h3 c1 c2 c3 => countPs_any N (by omega) Bs Bw Bn w h1 h2 h3 c1 c2 c3)
    have hb : pcC N = ((pcH N).length : Nat) := by unfold pcC; rw [hs]; rfl
    rw [hb]
    obtain ⟨L, hL⟩ : ∃ L, L = (pcH N).length := ⟨_, rfl⟩
    rw [← hL] at HB ⊢
    clear hs hn hb hL
    go_enter Try.func15, Try.ntmps15
    go_wp2_with fail
    refine (HC.out _).mono ?_
    rintro e w1 ⟨rfl, rfl⟩
    go_wp2_with fail
    refine (HA.out _).mono ?_
    rintro e w2 ⟨Bs, Bw, Bn, rfl, h1, h2, h3, c1, c2, c3, hb⟩
    have HK := Lib.hid (HB.out Bs Bw Bn _ h1.2 h2.2 h3.2 c1 c2 c3)
    have HBE := Lib.hid hb
    clear h1 h2 h3 c1 c2 c3 hb
    go_wp2_with fail
    refine (HK.out).mono ?_
    rintro e w3 ⟨rfl, hb3⟩
    have HB3 := Lib.hid (joins HBE.out hb3)
    clear hb3
    go_wp2_with fail
    go_returns
    exact ⟨rfl, HB3.out⟩
  | false =>
    rw [hs] at HC
    have hb : pcC n = 0 := by unfold pcC; rw [hs]; rfl
    rw [hb]
    clear hs hb
    go_enter Try.func15, Try.ntmps15
    go_wp2_with fail
    refine (HC.out _).mono ?_
    rintro e w1 ⟨rfl, rfl⟩
    go_wp2_with fail
    go_returns
    exact ⟨rfl, by go_grown⟩
end Go.Proofs.Ytjoepdflbbcliaa
