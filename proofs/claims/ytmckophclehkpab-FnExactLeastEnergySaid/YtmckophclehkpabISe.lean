/- The program's CountBarker and FirstBarker. -/
import Derived.Test.YtmckophclehkpabIBar
import Derived.Deep.MidRow
namespace Go.Proofs.Ytmckophclehkpab
open Go.RowKit

theorem rowShape {w : World} {B : Nat} {E : TypeId} {z : Nat} {v : Value} {n : Nat} {xs : List Value} (h : w.ownsRow B E z v n xs) : ∃ a cap, v = .slice a n cap := by
  rcases h.2 with ⟨rfl, h0⟩ | ⟨g, cap, cur, rfl, _⟩
  · exact ⟨none, 0, by rw [h0]⟩
  · exact ⟨_, _, rfl⟩
theorem rowPtr {w : World} {B : Nat} {E : TypeId} {z : Nat} {v : Value} {n : Nat} {xs : List Value} (h : w.ownsRow B E z v n xs) (hn : 0 < n) : ∃ g cap, v = .slice (some ⟨g, 0, none⟩) n cap ∧ B ≤ g ∧ ∀ j u, xs[j]? = some u → w.cell? ⟨g, j, none⟩ = some u := by
  have hc := fun (g : Nat) (hg : v.ownBlock = some g) => h.cells hg
  rcases h.2 with ⟨rfl, h0⟩ | ⟨g, cap, cur, rfl, hg, _⟩
  · omega
  · refine ⟨g, cap, rfl, hg, fun j u hj => ?_⟩
    have := hc g rfl j u hj
    rwa [Addr.add_lit, Nat.zero_add] at this
set_option maxHeartbeats 400000 in
theorem isSearched_any (n : Int) (w : World) : Calls Try.prog 41 #[.int .i64 n] w (Pure w (.bool (smallN n))) := by
  go_enter Try.func41, Try.ntmps41
  go_wp2
  all_goals
    go_ret
    exact ⟨ret_bool (by simp only [smallN]; simp; omega), rfl⟩

set_option maxHeartbeats 1000000 in
theorem icount (n : Int) (w : World) : Calls Try.prog 22 #[.int .i64 n] w (Ret w (.tuple #[.int .i64 (barC n), .bool (smallN n)])) := by
  have HC := isSearched_any n
  by_cases hs : smallN n = true
  · have hn : 1 ≤ n ∧ n ≤ 6 := by simpa [smallN] using hs
    obtain ⟨N, rfl⟩ := Int.eq_ofNat_of_zero_le (show 0 ≤ n by omega)
    have hb : barC N = ((barH N).length : Nat) := by unfold barC barH; rw [hs]; rfl
    rw [hb, hs]
    rw [hs] at HC
    have HB := Lib.hid (barkersOf_any N (by omega))
    have HC' := Lib.hid HC
    obtain ⟨L, hL⟩ : ∃ L, L = barH N := ⟨_, rfl⟩
    rw [← hL] at HB ⊢
    clear HC hb hs hn hL
    go_enter Try.func22, Try.ntmps22
    go_wp2_with fail
    refine (HC'.out _).mono ?_
    rintro e w1 ⟨rfl, rfl⟩
    go_wp2_with fail
    refine (HB.out _).mono ?_
    rintro e w2 ⟨v2, rfl, ho2, hb2⟩
    obtain ⟨a, cap, rfl⟩ := rowShape ho2
    clear ho2
    go_wp2_with fail
    go_returns
    exact ⟨rfl, hb2⟩
  · have hs2 : smallN n = false := by simpa using hs
    have hb : barC n = 0 := by unfold barC; rw [hs2]; rfl
    rw [hb, hs2]
    rw [hs2] at HC
    have HC' := Lib.hid HC
    clear HC hb hs hs2
    go_enter Try.func22, Try.ntmps22
    go_wp2_with fail
    refine (HC'.out _).mono ?_
    rintro e w1 ⟨rfl, rfl⟩
    go_wp2_with fail
    go_returns
    exact ⟨rfl, by go_grown⟩

set_option maxRecDepth 100000 in
set_option maxHeartbeats 1000000 in
theorem ifirst (n : Int) (w : World) : Calls Try.prog 24 #[.int .i64 n] w (MakesB w (barF n) (barFok n)) := by
  have HC := isSearched_any n
  by_cases hs : smallN n = true
  · have hn : 1 ≤ n ∧ n ≤ 6 := by simpa [smallN] using hs
    obtain ⟨N, rfl⟩ := Int.eq_ofNat_of_zero_le (show 0 ≤ n by omega)
    have HB := barkersOf_any N (by omega)
    rw [hs] at HC
    have HC' := Lib.hid HC
    have HB' := Lib.hid HB
    have hN : N ≤ 6 := by omega
    rcases hL : barH N with _ | ⟨r, t⟩
    · have e : barFok N = false := by unfold barFok; rw [Int.toNat_natCast, hL]; simp
      have e2 : barF N = [] := by unfold barF; rw [e]; rfl
      rw [e, e2]
      rw [hL] at HB'
      clear HC HB hs hn e e2 hL
      go_enter Try.func24, Try.ntmps24
      go_wp2_with fail
      refine (HC'.out _).mono ?_
      rintro e w1 ⟨rfl, rfl⟩
      go_wp2_with fail
      refine (HB'.out _).mono ?_
      rintro e w2 ⟨v2, rfl, ho2, hb2⟩
      obtain ⟨a, cap, rfl⟩ := rowShape ho2
      clear ho2
      go_wp2_with fail
      go_returns
      exact ⟨_, rfl, World.ownsRow_nil _ _ _ _, hb2⟩
    · have e : barFok N = true := by unfold barFok; rw [hs, Int.toNat_natCast, hL]; simp
      have e2 : barF N = lowD r N := by unfold barF; rw [e, Int.toNat_natCast, hL]; rfl
      have HLI : ∀ w, Calls Try.prog 43 #[.agg (phA (padL (lowD r N)) N)] w (Makes w (lowD r N)) := fun w => by
        have := list_any (padL (lowD r N)) N (padL_length (by rw [lowD_length]; omega)) (by omega) w
        have hp := pad_take (lowD r N)
        rw [lowD_length] at hp
        rwa [hp] at this
      have hsz : (phA (padL (lowD r N)) (N : Int)).size = 33 := phA_size _ _ (padL_length (by rw [lowD_length]; omega))
      have hrc : rankCells N (r :: t) = (phA (padL (lowD r N)) N).toList ++ rankCells N t := rfl
      rw [e, e2]
      rw [hL] at HB'
      obtain ⟨C, hC⟩ : ∃ C, C = phA (padL (lowD r N)) (N : Int) := ⟨_, rfl⟩
      rw [← hC] at HLI hsz hrc
      obtain ⟨D, hD⟩ : ∃ D, D = lowD r N := ⟨_, rfl⟩
      rw [← hD] at HLI ⊢
      have hI : (Try.prog.info? 43).map (·.size) = some C.toList.length := by rw [Array.length_toList, hsz]; exact infoPh
      have HLI' := Lib.hid HLI
      have HRC := Lib.hid hrc
      have HI := Lib.hid hI
      clear HC HB hs hn e e2 hL HLI hsz hrc hC hD hI
      go_enter Try.func24, Try.ntmps24
      go_wp2_with fail
      refine (HC'.out _).mono ?_
      rintro e w1 ⟨rfl, rfl⟩
      go_wp2_with fail
      refine (HB'.out _).mono ?_
      rintro e w2 ⟨v2, rfl, ho2, hb2⟩
      obtain ⟨g, cap, rfl, hg, hc⟩ := rowPtr ho2 (by simp)
      have hr : w2.rangeAt g 0 C.toList := fun j v hj => by
        have := hc j v (by rw [HRC.out, List.getElem?_append_left (List.getElem?_eq_some_iff.1 hj).1]; exact hj)
        rwa [Nat.zero_add]
      have HR := Lib.hid hr
      have HB2 := Lib.hid hb2
      have hlen : (((r :: t).length : Int) == 0) = false := by simp <;> omega
      have hlp : (0 : Int) < ((r :: t).length : Int) := by simp <;> omega
      obtain ⟨M, hM⟩ : ∃ M, M = (r :: t).length := ⟨_, rfl⟩
      rw [← hM] at hlen hlp ⊢
      clear ho2 hc hr hb2 hM
      go_wp2_with (refine wpList_load_mid rfl 43 (.tmp 14) rfl g 0 rfl C.toList _ HR.out Try.underlying43 rfl HI.out ?_)
      refine (HLI'.out _).mono ?_
      rintro e w3 ⟨v3, rfl, ho3, hb3⟩
      have HO3 := Lib.hid (Own.mono ho3 HB2.out.size)
      have HB3 := Lib.hid (joins HB2.out hb3)
      clear ho3 hb3
      go_wp2_with fail
      go_returns
      exact ⟨_, rfl, HO3.out, HB3.out⟩
  · have hs2 : smallN n = false := by simpa using hs
    have hb0 : barFok n = false := by unfold barFok; rw [hs2]; rfl
    have hb : barF n = [] := by unfold barF; rw [hb0]; rfl
    rw [hb, hb0]
    rw [hs2] at HC
    have HC' := Lib.hid HC
    clear HC hb hb0 hs hs2
    go_enter Try.func24, Try.ntmps24
    go_wp2_with fail
    refine (HC'.out _).mono ?_
    rintro e w1 ⟨rfl, rfl⟩
    go_wp2_with fail
    go_returns
    exact ⟨_, rfl, World.ownsRow_nil _ _ _ _, by go_grown⟩
end Go.Proofs.Ytmckophclehkpab
