/- The model's MeritOf. -/
import Derived.Test.YtmckophclehkpabSEn
import Derived.Test.YtmckophclehkpabMeM
import Derived.Test.YtmckophclehkpabGcd
namespace Go.Proofs.Ytmckophclehkpab
open Go.RowKit

theorem div_cast (a b : Nat) : (a : Int) / (b : Int) = ((a / b : Nat) : Int) := (Int.natCast_ediv a b).symm
theorem quo_cast (a b : Nat) : (a : Int).tdiv (b : Int) = ((a / b : Nat) : Int) := by
  rw [Int.tdiv_eq_ediv_of_nonneg (by omega)]
  exact div_cast a b
set_option maxRecDepth 100000 in
set_option maxHeartbeats 1000000 in
theorem smerit (va : Value) (l : List Int) (w : World) (hva : IS w va l) (hla : l.length ≤ 1048576) :
    Calls Try.prog 14 #[va] w (Ret w (.tuple #[.agg #[.int .i64 (meX l), .int .i64 (meY l)], .bool (meOk l)])) := by
  have hz0 := ZG.start w 29
  have HPI := phIs_any va l _ (hva.step hz0) hla
  obtain ⟨p, cap, rfl⟩ := hva.slice
  by_cases hs : isSeq l = true
  · rw [hs] at HPI
    have HE : ∀ w', ZG w w' → Calls Try.prog 30 #[.slice p l.length cap] w' (Ret w' (.int .i64 (sideE l))) := fun w' hz => crEnergy_any _ l w' (hva.step hz) hs
    by_cases he : sideE l = 0
    · obtain ⟨m1, m2, m3⟩ := me_bad l (Or.inr he)
      rw [m1, m2, m3]
      rw [he] at HE
      have HE' := Lib.hid HE
      have HPI' := Lib.hid HPI
      have HZ0 := Lib.hid hz0
      clear HE HPI hz0 m1 m2 m3 he hs hva
      go_enter Try.func14, Try.ntmps14
      go_wp2_with fail
      refine (HPI'.out).mono ?_
      rintro e w1 ⟨rfl, hb1⟩
      have HZ1 := Lib.hid (HZ0.out.step hb1)
      clear hb1
      go_wp2_with fail
      refine (HE'.out _ HZ1.out).mono ?_
      rintro e w2 ⟨rfl, hb2⟩
      have hz2 := HZ1.out.step hb2
      have HR := Lib.hid hz2
      obtain ⟨z1, z2, z3, z4, z5, z6⟩ := hz2
      clear hb2
      go_wp2_with fail
      (try simp only [Exit.inBlock, Exit.then])
      obtain ⟨d0, d2, d3⟩ := HR.out.ret (.int .i64 0) (.int .i64 0)
      refine bodyPost_ret (by simp [results, Try.results14, go_sem, d0, d2]; try rfl) rfl ?_
      exact ⟨rfl, d3⟩
    · obtain ⟨m1, m2, m3⟩ := me_good l hs he
      obtain ⟨E, hE, hE1, hE2, hD, hG1, hG2, hQ1, hQ2, hN⟩ := me_facts l hs he
      rw [m1, m2, m3]
      rw [hE] at HE
      have h32 := isSeq_len hs
      have hsq : (l.length : Int) * (l.length : Int) = (meN l : Int) := by unfold meN; exact (Int.natCast_mul _ _).symm
      have hGd : meG l = Nat.gcd (meN l) (2 * E) := by unfold meG; rw [hD]
      have HG : ∀ w, Calls Try.prog 33 #[.int .i64 (meN l), .int .i64 (2 * (E : Int))] w (Ret w (.int .i64 (meG l : Nat))) := fun w => by
        have := crGcd_any (meN l) (2 * E) (by omega) (by omega) w
        rw [← hGd] at this
        rwa [show ((2 * E : Nat) : Int) = 2 * (E : Int) by omega] at this
      have hq : meN l / meG l ≤ 1024 := Nat.le_trans (Nat.div_le_self _ _) hN
      have q1 := quo_cast (meN l) (meG l)
      have q2 : (2 * (E : Int)).tdiv (meG l : Int) = ((meD l / meG l : Nat) : Int) := by rw [hD]; exact quo_cast (2 * E) (meG l)
      have q3 := div_cast (meN l) (meG l)
      have q4 : (2 * (E : Int)) / (meG l : Int) = ((meD l / meG l : Nat) : Int) := by rw [hD]; exact div_cast (2 * E) (meG l)
      obtain ⟨A, hA⟩ : ∃ n, n = meN l / meG l := ⟨_, rfl⟩
      obtain ⟨B, hB⟩ : ∃ n, n = meD l / meG l := ⟨_, rfl⟩
      obtain ⟨n, hn⟩ : ∃ n, n = meN l := ⟨_, rfl⟩
      obtain ⟨g, hg⟩ : ∃ n, n = meG l := ⟨_, rfl⟩
      rw [← hA, ← hn, ← hg] at q1 q3
      rw [← hA] at hq ⊢
      rw [← hB, ← hg] at q2 q4
      rw [← hB] at hQ1 hQ2 ⊢
      rw [← hn] at hN HG hsq
      rw [← hg] at HG hG1 hG2
      obtain ⟨N, hNl⟩ : ∃ n, n = l.length := ⟨_, rfl⟩
      rw [← hNl] at HE HPI hsq h32 ⊢
      have hs0 : 0 ≤ (N : Int) * (N : Int) := by omega
      have hs1 : (N : Int) * (N : Int) ≤ 1024 := by omega
      have hwn : IntKind.i64.wrap ((N : Int) * (N : Int)) = (n : Int) := by rw [hsq]; exact IntWalk.i64_in _ (by omega)
      have hw2 : IntKind.i64.wrap (2 * (E : Int)) = 2 * (E : Int) := IntWalk.i64_in _ (by omega)
      have hwq1 : IntKind.i64.wrap ((n : Int).tdiv (g : Int)) = (A : Int) := by rw [q1]; exact IntWalk.i64_in _ (by omega)
      have hwq2 : IntKind.i64.wrap ((2 * (E : Int)).tdiv (g : Int)) = (B : Int) := by rw [q2]; exact IntWalk.i64_in _ (by omega)
      have hwq3 : IntKind.i64.wrap ((n : Int) / (g : Int)) = (A : Int) := by rw [q3]; exact IntWalk.i64_in _ (by omega)
      have hwq4 : IntKind.i64.wrap ((2 * (E : Int)) / (g : Int)) = (B : Int) := by rw [q4]; exact IntWalk.i64_in _ (by omega)
      have hE3 : (0 : Int) < (E : Int) := by omega
      have hg3 : (0 : Int) < (g : Int) := by omega
      have hg4 : (g : Int) ≠ 0 := by omega
      have HE' := Lib.hid HE
      have HPI' := Lib.hid HPI
      have HG' := Lib.hid HG
      have HZ0 := Lib.hid hz0
      clear HE HPI HG hz0 m1 m2 m3 he hs hva hE hD hGd hA hB hn hg hNl
      go_enter Try.func14, Try.ntmps14
      go_wp2_with fail
      refine (HPI'.out).mono ?_
      rintro e w1 ⟨rfl, hb1⟩
      have HZ1 := Lib.hid (HZ0.out.step hb1)
      clear hb1
      go_wp2_with fail
      refine (HE'.out _ HZ1.out).mono ?_
      rintro e w2 ⟨rfl, hb2⟩
      have HZ2 := Lib.hid (HZ1.out.step hb2)
      clear hb2
      go_wp2_with fail
      refine (HE'.out _ HZ2.out).mono ?_
      rintro e w3 ⟨rfl, hb3⟩
      have HZ3 := Lib.hid (HZ2.out.step hb3)
      clear hb3
      go_wp2_with fail
      refine (HG'.out _).mono ?_
      rintro e w4 ⟨rfl, hb4⟩
      have hz4 := HZ3.out.step hb4
      have HR := Lib.hid hz4
      obtain ⟨z1, z2, z3, z4, z5, z6⟩ := hz4
      clear hb4
      go_wp2_with fail
      go_region
      all_goals
        go_wp2_with fail
        (try simp only [Exit.inBlock, Exit.then])
        obtain ⟨d0, d2, d3⟩ := HR.out.ret (.int .i64 A) (.int .i64 B)
        refine bodyPost_ret (by simp [results, Try.results14, go_sem, d0, d2]; try rfl) rfl ?_
        exact ⟨rfl, belowN d3 1⟩
  · have hs2 : isSeq l = false := by simpa using hs
    obtain ⟨m1, m2, m3⟩ := me_bad l (Or.inl hs2)
    rw [m1, m2, m3]
    rw [hs2] at HPI
    have HPI' := Lib.hid HPI
    have HZ0 := Lib.hid hz0
    clear HPI hz0 m1 m2 m3 hs hs2 hva
    go_enter Try.func14, Try.ntmps14
    go_wp2_with fail
    refine (HPI'.out).mono ?_
    rintro e w1 ⟨rfl, hb1⟩
    have hz2 := HZ0.out.step hb1
    have HR := Lib.hid hz2
    obtain ⟨z1, z2, z3, z4, z5, z6⟩ := hz2
    clear hb1
    go_wp2_with fail
    (try simp only [Exit.inBlock, Exit.then])
    obtain ⟨d0, d2, d3⟩ := HR.out.ret (.int .i64 0) (.int .i64 0)
    refine bodyPost_ret (by simp [results, Try.results14, go_sem, d0, d2]; try rfl) rfl ?_
    exact ⟨rfl, d3⟩
end Go.Proofs.Ytmckophclehkpab
