/- The program's ratioOf and MeritOf. -/
import Derived.Test.YtmckophclehkpabIEn
import Derived.Test.YtmckophclehkpabMeM
import Derived.Test.YtmckophclehkpabGcd
import Derived.Test.YtmckophclehkpabSumM
import Derived.Test.YtmckophclehkpabHeldL
import Derived.Test.YtmckophclehkpabTN
namespace Go.Proofs.Ytmckophclehkpab
open Go.RowKit

theorem ZG.drew' {w wr : World} (h : ZG w wr) : ZG w wr.drew := ⟨belowN h.below 1, h.c0, h.c1, h.f0, h.f1, h.size⟩
theorem idiv_cast (a b : Nat) : (a : Int) / (b : Int) = ((a / b : Nat) : Int) := (Int.natCast_ediv a b).symm
theorem iquo_cast (a b : Nat) : (a : Int).tdiv (b : Int) = ((a / b : Nat) : Int) := by
  rw [Int.tdiv_eq_ediv_of_nonneg (by omega)]
  exact idiv_cast a b
set_option maxHeartbeats 1000000 in
theorem ratioOf_zero (n : Int) (w : World) : Calls Try.prog 34 #[.int .i64 n, .int .i64 0] w (Ret w (.agg #[.int .i64 0, .int .i64 0])) := by
  have hz0 := ZG.start w 29
  obtain ⟨z1, z2, z3, z4, z5, z6⟩ := hz0
  go_enter Try.func34, Try.ntmps34
  go_wp2_with fail
  (try simp only [Exit.inBlock, Exit.then])
  refine bodyPost_ret (by simp [results, Try.results34, go_sem]; try rfl) rfl ?_
  exact ⟨rfl, z1⟩
set_option maxHeartbeats 1000000 in
theorem ratioOf_pos (n d : Nat) (hn : n ≤ 1000000) (hd : 0 < d) (hd2 : d ≤ 1000000) (w : World) : Calls Try.prog 34 #[.int .i64 n, .int .i64 d] w (Ret w (.agg #[.int .i64 (n / Nat.gcd n d : Nat), .int .i64 (d / Nat.gcd n d : Nat)])) := by
  have hz0 := ZG.start w 29
  have HG := Lib.hid (commonDivisor_any n d (by omega) (by omega))
  have hg : 0 < Nat.gcd n d := Nat.gcd_pos_of_pos_right _ hd
  have hA2 : n / Nat.gcd n d ≤ n := Nat.div_le_self _ _
  have hB2 : d / Nat.gcd n d ≤ d := Nat.div_le_self _ _
  have q1 := iquo_cast n (Nat.gcd n d)
  have q2 := iquo_cast d (Nat.gcd n d)
  have q3 := idiv_cast n (Nat.gcd n d)
  have q4 := idiv_cast d (Nat.gcd n d)
  obtain ⟨A, hA⟩ : ∃ x, x = n / Nat.gcd n d := ⟨_, rfl⟩
  obtain ⟨B, hB⟩ : ∃ x, x = d / Nat.gcd n d := ⟨_, rfl⟩
  obtain ⟨g, hgd⟩ : ∃ x, x = Nat.gcd n d := ⟨_, rfl⟩
  rw [← hA, ← hgd] at q1 q3
  rw [← hB, ← hgd] at q2 q4
  rw [← hA] at hA2 ⊢
  rw [← hB] at hB2 ⊢
  rw [← hgd] at HG hg
  have hg3 : (0 : Int) < (g : Int) := by omega
  have hg4 : (g : Int) ≠ 0 := by omega
  have hd3 : (0 : Int) < (d : Int) := by omega
  have hwq1 : IntKind.i64.wrap ((n : Int).tdiv (g : Int)) = (A : Int) := by rw [q1]; exact IntWalk.i64_in _ (by omega)
  have hwq2 : IntKind.i64.wrap ((d : Int).tdiv (g : Int)) = (B : Int) := by rw [q2]; exact IntWalk.i64_in _ (by omega)
  have hwq3 : IntKind.i64.wrap ((n : Int) / (g : Int)) = (A : Int) := by rw [q3]; exact IntWalk.i64_in _ (by omega)
  have hwq4 : IntKind.i64.wrap ((d : Int) / (g : Int)) = (B : Int) := by rw [q4]; exact IntWalk.i64_in _ (by omega)
  have HZ0 := Lib.hid hz0
  clear hz0 hA hB hgd hg
  go_enter Try.func34, Try.ntmps34
  go_wp2_with fail
  refine (HG.out _).mono ?_
  rintro e w1 ⟨rfl, hb1⟩
  have hz4 := HZ0.out.step hb1
  have HR := Lib.hid hz4
  obtain ⟨z1, z2, z3, z4, z5, z6⟩ := hz4
  clear hb1
  go_wp2_with fail
  go_region
  all_goals
    go_wp2_with fail
    (try simp only [Exit.inBlock, Exit.then])
    obtain ⟨d0, d2, d3⟩ := HR.out.ret (.int .i64 A) (.int .i64 B)
    refine bodyPost_ret (by simp [results, Try.results34, go_sem, d0, d2]; try rfl) rfl ?_
    exact ⟨rfl, belowN d3 1⟩

set_option maxRecDepth 100000 in
set_option maxHeartbeats 2000000 in
theorem imerit (va : Value) (l : List Int) (w : World) (hva : IS w va l) (hla : l.length ≤ 1048576) :
    Calls Try.prog 15 #[va] w (Ret w (.tuple #[.agg #[.int .i64 (meX l), .int .i64 (meY l)], .bool (meOk l)])) := by
  have hz0 := ZG.start w 29
  by_cases hs : isSeq l = true
  · have h32 := isSeq_len hs
    have HP : ∀ w', ZG w w' → Calls Try.prog 31 #[va] w' (Ret w' (.tuple #[.agg (phA (padL l) l.length), .bool true])) := fun w' hz => phasesOf_seq va l w' (hva.step hz) hs
    have HE := sideEnergy_any l hs
    have hsz : (phA (padL l) (l.length : Int)).size = 33 := phA_size _ _ (padL_length h32)
    have hone := phA_one (padL l) (l.length : Int)
    have hlen := phA_len (padL l) (l.length : Int) (padL_length h32)
    have hi : (Try.prog.info? 43).map (·.size) = some (phA (padL l) (l.length : Int)).size := by rw [hsz]; exact infoPh
    have hsq : (l.length : Int) * (l.length : Int) = (meN l : Int) := by unfold meN; exact (Int.natCast_mul _ _).symm
    have hN1 : meN l ≤ 1024 := Nat.mul_le_mul h32 h32
    have hb := sideE_bound l h32
    have HRA : ∀ w, Calls Try.prog 34 #[.int .i64 (meN l), .int .i64 (2 * sideE l)] w (Ret w (.agg #[.int .i64 (meX l), .int .i64 (meY l)])) := fun w => by
      by_cases he : sideE l = 0
      · obtain ⟨m1, m2, m3⟩ := me_bad l (Or.inr he)
        rw [m2, m3, he]
        exact ratioOf_zero _ w
      · obtain ⟨m1, m2, m3⟩ := me_good l hs he
        obtain ⟨E, hE, hE1, hE2, hD, hG1, hG2, hQ1, hQ2, hN⟩ := me_facts l hs he
        have := ratioOf_pos (meN l) (2 * E) (by omega) (by omega) (by omega) w
        rw [m2, m3]
        unfold meG
        rw [hD, hE]
        rwa [show ((2 * E : Nat) : Int) = 2 * (E : Int) by omega] at this
    have hok : (meOk l = true ∧ 0 < meY l) ∨ (meOk l = false ∧ meX l = 0 ∧ meY l = 0) := by
      by_cases he : sideE l = 0
      · exact Or.inr (me_bad l (Or.inr he))
      · obtain ⟨m1, m2, m3⟩ := me_good l hs he
        obtain ⟨E, hE, hE1, hE2, hD, hG1, hG2, hQ1, hQ2, hN⟩ := me_facts l hs he
        exact Or.inl ⟨m1, by rw [m3]; omega⟩
    obtain ⟨C, hC⟩ : ∃ C, C = phA (padL l) (l.length : Int) := ⟨_, rfl⟩
    obtain ⟨N, hN⟩ : ∃ n, n = l.length := ⟨_, rfl⟩
    obtain ⟨n, hn⟩ : ∃ n, n = meN l := ⟨_, rfl⟩
    obtain ⟨E, hE⟩ : ∃ n, n = sideE l := ⟨_, rfl⟩
    obtain ⟨X, hX⟩ : ∃ n, n = meX l := ⟨_, rfl⟩
    obtain ⟨Y, hY⟩ : ∃ n, n = meY l := ⟨_, rfl⟩
    obtain ⟨b, hbd⟩ : ∃ n, n = meOk l := ⟨_, rfl⟩
    rw [← hC] at HP HE hsz hone hlen hi
    rw [← hN] at hlen hsq h32
    rw [← hn] at hsq hN1 HRA
    rw [← hE] at hb HE HRA
    rw [← hX, ← hY] at HRA hok ⊢
    rw [← hbd] at hok ⊢
    have hwn : IntKind.i64.wrap ((N : Int) * (N : Int)) = (n : Int) := by rw [hsq]; exact IntWalk.i64_in _ (by omega)
    have hw2 : IntKind.i64.wrap (2 * E) = 2 * E := IntWalk.i64_in _ (by omega)
    obtain ⟨hb1, hb2⟩ := hb
    have HP' := Lib.hid HP
    have HE' := Lib.hid HE
    have HRA' := Lib.hid HRA
    have HZ0 := Lib.hid hz0
    have HL := Lib.hid hlen
    have HSZ := Lib.hid hsz
    have HONE := Lib.hid hone
    have HI := Lib.hid hi
    have HWN := Lib.hid hwn
    have HW2 := Lib.hid hw2
    have HOK := Lib.hid hok
    clear HP HE HRA hz0 hlen hsz hone hi hs hC hN hn hE hX hY hbd hva hsq hwn hw2 hok
    go_enter Try.func15, Try.ntmps15
    go_wp2_with fail
    refine (HP'.out _ HZ0.out).mono ?_
    rintro e w1 ⟨rfl, hb1⟩
    have HZ1 := Lib.hid (HZ0.out.step hb1)
    clear hb1
    go_wp2_with (first
      | (refine wpList_alloc_big rfl 43 rfl (phA z32 0) zeroPh ?_)
      | (refine wpList_store_big rfl 43 (.tmp 4) (.tmp 10) rfl w1.heap.size C rfl rfl 43 _ (heap_alloc_new w1 _) 33 infoPh HSZ.out (phA_size _ _ z32_length) HONE.out w1.heap.size w1 (belowa (Below.refl _ _) _) (Nat.le_refl _) ?_; intro w3 hg3 ho3 hz3 hb3; have HG3 := Lib.hid hg3; have HB3 := Lib.hid hb3; clear hg3 ho3 hz3 hb3))
    have hk := (KR.mk HG3.out HB3.out).drew
    have HCELL := Lib.hid (fun (W : World) (h : KR w1 w1.heap.size C W) => h.cell 32 _ HL.out)
    refine wp_region_held_drew (S := KR w1 w1.heap.size C) (by kernel_rfl) hk ?_
    intro hHeld
    refine' wpAnyH_take (i := 0) (v := _) rfl (by kernel_rfl) (by kernel_rfl) (by kernel_rfl) (fun _ _ _ h => h) (Or.inl ⟨by rfl, ?hy5⟩) (by assumption) ?rest6
    case hy5 =>
      intro w hSw
      go_simp
      (try with_reducible rfl)
    (try simp only [Act.put, List.getElem_toArray, List.getElem_cons_zero, List.setIfInBounds_toArray, List.set_cons_zero, List.set_cons_succ])
    refine' wpAnyH_take (i := 2) (v := _) rfl (by kernel_rfl) (by kernel_rfl) (by kernel_rfl) (fun _ _ _ h => h) (Or.inl ⟨by rfl, ?hy7⟩) (by assumption) ?rest8
    case hy7 =>
      intro w hSw
      go_simp
      (try with_reducible rfl)
    (try simp only [Act.put, List.getElem_toArray, List.getElem_cons_zero, List.getElem_cons_succ, List.setIfInBounds_toArray, List.set_cons_zero, List.set_cons_succ])
    refine' wpAnyH_take (i := 1) (v := _) rfl (by kernel_rfl) (by kernel_rfl) (by kernel_rfl) (fun _ _ _ h => h) (Or.inl ⟨by rfl, ?hy9⟩) (by assumption) ?rest10
    case hy9 =>
      intro w hSw
      have cN := HCELL.out w hSw
      go_simp
      (try with_reducible rfl)
    (try simp only [Act.put, List.getElem_toArray, List.getElem_cons_zero, List.getElem_cons_succ, List.setIfInBounds_toArray, List.set_cons_zero, List.set_cons_succ])
    refine' wpAnyH_take (i := 3) (v := _) rfl (by kernel_rfl) (by kernel_rfl) (by kernel_rfl) (fun _ _ _ h => h) (Or.inl ⟨by rfl, ?hy11⟩) (by assumption) ?rest12
    case hy11 =>
      intro w hSw
      have cN := HCELL.out w hSw
      go_simp
      (try with_reducible rfl)
    (try simp only [Act.put, List.getElem_toArray, List.getElem_cons_zero, List.getElem_cons_succ, List.setIfInBounds_toArray, List.set_cons_zero, List.set_cons_succ])
    refine' wpAnyH_take (i := 4) (v := _) rfl (by kernel_rfl) (by kernel_rfl) (by kernel_rfl) (fun _ _ _ h => h) (Or.inl ⟨by rfl, ?hy13⟩) (by assumption) ?rest14
    case hy13 =>
      intro w hSw
      go_simp
      (try with_reducible rfl)
    (try simp only [Act.put, List.getElem_toArray, List.getElem_cons_zero, List.getElem_cons_succ, List.setIfInBounds_toArray, List.set_cons_zero, List.set_cons_succ])
    rw [HWN.out]
    refine' wpAnyH_take (i := 5) (v := _) rfl (by kernel_rfl) (by kernel_rfl) (by kernel_rfl) (fun _ _ _ h => h) (yields_row (by rfl) 43 (.tmp 4) rfl w1.heap.size rfl 43 C (0, 0) _ ?hS15 Try.underlying43 rfl HI.out) (by assumption) ?rest16
    case hS15 =>
      intro w hSw
      exact hSw.row
    simp only [Act.put, List.getElem_toArray, List.getElem_cons_zero, List.getElem_cons_succ, List.setIfInBounds_toArray, List.set_cons_zero, List.set_cons_succ]
    refine wpAnyH_ready (rs := [6, 9]) (by kernel_rfl) (by simp) ?_
    refine AllReadyH.cons rfl (fun K hK => ?_) (AllReadyH.cons rfl (fun K hK => ?_) AllReadyH.nil)
    · go_simp
      refine (HE'.out _).mono ?_
      rintro e w4 ⟨rfl, hb4⟩
      refine hK.out _ _ (hHeld.step hb4) (fun hHeld => ?_)
      clear hK K
      (try simp only [Act.put, List.getElem_toArray, List.getElem_cons_zero, List.getElem_cons_succ, List.setIfInBounds_toArray, List.set_cons_zero, List.set_cons_succ])
      refine' wpAnyH_take (i := 7) (v := _) rfl (by kernel_rfl) (by kernel_rfl) (by kernel_rfl) (fun _ _ _ h => h) (Or.inl ⟨by rfl, ?hy1⟩) (by assumption) ?rest2
      case hy1 =>
        intro w hSw
        go_simp
        (try with_reducible rfl)
      (try simp only [Act.put, List.getElem_toArray, List.getElem_cons_zero, List.getElem_cons_succ, List.setIfInBounds_toArray, List.set_cons_zero, List.set_cons_succ])
      rw [HW2.out]
      refine wpAnyH_ready (rs := [8, 9]) (by kernel_rfl) (by simp) ?_
      refine AllReadyH.cons rfl (fun K hK => ?_) (AllReadyH.cons rfl (fun K hK => ?_) AllReadyH.nil)
      · go_simp
        refine (HRA'.out _).mono ?_
        rintro e w5 ⟨rfl, hb5⟩
        refine hK.out _ _ (hHeld.step hb5) (fun hHeld => ?_)
        clear hK K
        (try simp only [Act.put, List.getElem_toArray, List.getElem_cons_zero, List.getElem_cons_succ, List.setIfInBounds_toArray, List.set_cons_zero, List.set_cons_succ])
        refine wpAnyH_ready (rs := [9]) (by kernel_rfl) (by simp) ?_
        refine AllReadyH.cons rfl (fun K hK => ?_) AllReadyH.nil
        go_simp
        refine hK.out _ _ (hHeld.alloc _) (fun hHeld => ?_)
        clear hK K
        (try simp only [Act.put, List.getElem_toArray, List.getElem_cons_zero, List.getElem_cons_succ, List.setIfInBounds_toArray, List.set_cons_zero, List.set_cons_succ])
        refine wpAnyH_ready (rs := [10]) (by kernel_rfl) (by simp) ?_
        refine AllReadyH.cons rfl (fun K hK => ?_) AllReadyH.nil
        go_simp
        refine hK.out _ _ (KR.alloc ‹KR w1 w1.heap.size C w5› _) (fun hHeld => ?_)
        clear hK K
        (try simp only [Act.put, List.getElem_toArray, List.getElem_cons_zero, List.getElem_cons_succ, List.setIfInBounds_toArray, List.set_cons_zero, List.set_cons_succ])
        have hk5 := ‹KR w1 w1.heap.size C w5›
        have HT := Lib.hid (TN.new (B := w1.heap.size) (W := w5) hk5.below.size (.int .i64 X) (.int .i64 Y) 29)
        have HZ := Lib.hid (HZ1.out.step (hk5.alloc (.cells #[.int .i64 X, .int .i64 Y] 29)).below)
        refine wpAnyH_done (by kernel_rfl) ?_ _
        have ⟨_, _, _, _, _, _⟩ := HT.out
        have ⟨_, _, _, _, _, _⟩ := HZ.out
        have hne1 := Nat.ne_of_lt (Nat.lt_of_lt_of_le HZ1.out.size HT.out.low)
        have hne2 := Nat.ne_of_gt (Nat.lt_of_lt_of_le HZ1.out.size HT.out.low)
        (try simp only [World.size_drew] at hne1 hne2)
        go_wp2_with fail
        rcases HOK.out with ⟨rfl, hy⟩ | ⟨rfl, rfl, rfl⟩
        · have hy1 : (Y == 0) = false := by simp; omega
          go_region
          all_goals
            go_wp2_with fail
            (try simp only [Exit.inBlock, Exit.then])
            obtain ⟨d0, d2, d3⟩ := HZ.out.ret (.int .i64 X) (.int .i64 Y)
            refine bodyPost_ret (by simp [results, Try.results15, go_sem, d0, d2]; try rfl) rfl ?_
            exact ⟨rfl, belowN d3 1⟩
        · go_region
          all_goals
            go_wp2_with fail
            (try simp only [Exit.inBlock, Exit.then])
            obtain ⟨d0, d2, d3⟩ := HZ.out.ret (.int .i64 0) (.int .i64 0)
            refine bodyPost_ret (by simp [results, Try.results15, go_sem, d0, d2]; try rfl) rfl ?_
            exact ⟨rfl, belowN d3 1⟩
      · go_simp
        have hsz4 := hHeld.below.size
        have hlt4 := (Array.getElem?_eq_some_iff.1 hHeld.row).1
        have t0 := TN.new (B := w1.heap.size) (W := w4) hsz4 (.int .i64 0) (.int .i64 0) 29
        refine hK.out _ _ (hHeld.alloc _) (fun hHeld => ?_)
        clear hK K
        (try simp only [Act.put, List.getElem_toArray, List.getElem_cons_zero, List.getElem_cons_succ, List.setIfInBounds_toArray, List.set_cons_zero, List.set_cons_succ])
        refine wpAnyH_ready (rs := [8]) (by kernel_rfl) (by simp) ?_
        refine AllReadyH.cons rfl (fun K hK => ?_) AllReadyH.nil
        go_simp
        refine (HRA'.out _).mono ?_
        rintro e w5 ⟨rfl, hb5⟩
        refine hK.out _ _ (hHeld.step hb5) (fun hHeld => ?_)
        clear hK K
        (try simp only [Act.put, List.getElem_toArray, List.getElem_cons_zero, List.getElem_cons_succ, List.setIfInBounds_toArray, List.set_cons_zero, List.set_cons_succ])
        have t1 := t0.step hb5
        have ⟨_, _, _, _, _, _⟩ := t1
        refine wpAnyH_ready (rs := [10]) (by kernel_rfl) (by simp) ?_
        refine AllReadyH.cons rfl (fun K hK => ?_) AllReadyH.nil
        go_simp
        refine hK.out _ _ ((hHeld.set ⟨w4.heap.size, 0, none⟩ (.int .i64 X) (by simp; omega) (by simp; omega)).set ⟨w4.heap.size, 1, none⟩ (.int .i64 Y) (by simp; omega) (by simp; omega)) (fun hHeld => ?_)
        clear hK K
        (try simp only [Act.put, List.getElem_toArray, List.getElem_cons_zero, List.getElem_cons_succ, List.setIfInBounds_toArray, List.set_cons_zero, List.set_cons_succ])
        have HT := Lib.hid (t1.put (.int .i64 X) (.int .i64 Y))
        have HZ := Lib.hid (HZ1.out.step hHeld.below)
        refine wpAnyH_done (by kernel_rfl) ?_ _
        have ⟨_, _, _, _, _, _⟩ := HT.out
        have ⟨_, _, _, _, _, _⟩ := HZ.out
        have hne1 := Nat.ne_of_lt (Nat.lt_of_lt_of_le HZ1.out.size HT.out.low)
        have hne2 := Nat.ne_of_gt (Nat.lt_of_lt_of_le HZ1.out.size HT.out.low)
        (try simp only [World.size_drew] at hne1 hne2)
        go_wp2_with fail
        rcases HOK.out with ⟨rfl, hy⟩ | ⟨rfl, rfl, rfl⟩
        · have hy1 : (Y == 0) = false := by simp; omega
          go_region
          all_goals
            go_wp2_with fail
            (try simp only [Exit.inBlock, Exit.then])
            obtain ⟨d0, d2, d3⟩ := HZ.out.ret (.int .i64 X) (.int .i64 Y)
            refine bodyPost_ret (by simp [results, Try.results15, go_sem, d0, d2]; try rfl) rfl ?_
            exact ⟨rfl, belowN d3 1⟩
        · go_region
          all_goals
            go_wp2_with fail
            (try simp only [Exit.inBlock, Exit.then])
            obtain ⟨d0, d2, d3⟩ := HZ.out.ret (.int .i64 0) (.int .i64 0)
            refine bodyPost_ret (by simp [results, Try.results15, go_sem, d0, d2]; try rfl) rfl ?_
            exact ⟨rfl, belowN d3 1⟩
    · go_simp
      have hsz4 : w1.heap.size ≤ w3.heap.size := hHeld.below.size
      have hlt4 : w1.heap.size < w3.heap.size := (Array.getElem?_eq_some_iff.1 hHeld.row).1
      have t0 := TN.new (B := w1.heap.size) (W := w3.drew) hsz4 (.int .i64 0) (.int .i64 0) 29
      refine hK.out _ _ (hHeld.alloc _) (fun hHeld => ?_)
      clear hK K
      (try simp only [Act.put, List.getElem_toArray, List.getElem_cons_zero, List.getElem_cons_succ, List.setIfInBounds_toArray, List.set_cons_zero, List.set_cons_succ])
      refine wpAnyH_ready (rs := [6]) (by kernel_rfl) (by simp) ?_
      refine AllReadyH.cons rfl (fun K hK => ?_) AllReadyH.nil
      go_simp
      refine (HE'.out _).mono ?_
      rintro e w4 ⟨rfl, hb4⟩
      refine hK.out _ _ (hHeld.step hb4) (fun hHeld => ?_)
      clear hK K
      (try simp only [Act.put, List.getElem_toArray, List.getElem_cons_zero, List.getElem_cons_succ, List.setIfInBounds_toArray, List.set_cons_zero, List.set_cons_succ])
      have t0 := t0.step hb4
      refine' wpAnyH_take (i := 7) (v := _) rfl (by kernel_rfl) (by kernel_rfl) (by kernel_rfl) (fun _ _ _ h => h) (Or.inl ⟨by rfl, ?hy3⟩) (by assumption) ?rest4
      case hy3 =>
        intro w hSw
        go_simp
        (try with_reducible rfl)
      (try simp only [Act.put, List.getElem_toArray, List.getElem_cons_zero, List.getElem_cons_succ, List.setIfInBounds_toArray, List.set_cons_zero, List.set_cons_succ])
      rw [HW2.out]
      refine wpAnyH_ready (rs := [8]) (by kernel_rfl) (by simp) ?_
      refine AllReadyH.cons rfl (fun K hK => ?_) AllReadyH.nil
      go_simp
      refine (HRA'.out _).mono ?_
      rintro e w5 ⟨rfl, hb5⟩
      refine hK.out _ _ (hHeld.step hb5) (fun hHeld => ?_)
      clear hK K
      (try simp only [Act.put, List.getElem_toArray, List.getElem_cons_zero, List.getElem_cons_succ, List.setIfInBounds_toArray, List.set_cons_zero, List.set_cons_succ])
      have t1 : TN w1.heap.size (.int .i64 0) (.int .i64 0) w3.heap.size w5 := t0.step hb5
      have ⟨_, _, _, _, _, _⟩ := t1
      refine wpAnyH_ready (rs := [10]) (by kernel_rfl) (by simp) ?_
      refine AllReadyH.cons rfl (fun K hK => ?_) AllReadyH.nil
      go_simp
      refine hK.out _ _ ((hHeld.set ⟨w3.heap.size, 0, none⟩ (.int .i64 X) (by simp; omega) (by simp; omega)).set ⟨w3.heap.size, 1, none⟩ (.int .i64 Y) (by simp; omega) (by simp; omega)) (fun hHeld => ?_)
      clear hK K
      (try simp only [Act.put, List.getElem_toArray, List.getElem_cons_zero, List.getElem_cons_succ, List.setIfInBounds_toArray, List.set_cons_zero, List.set_cons_succ])
      have HT := Lib.hid (t1.put (.int .i64 X) (.int .i64 Y))
      have HZ := Lib.hid (HZ1.out.step hHeld.below)
      refine wpAnyH_done (by kernel_rfl) ?_ _
      have ⟨_, _, _, _, _, _⟩ := HT.out
      have ⟨_, _, _, _, _, _⟩ := HZ.out
      have hne1 := Nat.ne_of_lt (Nat.lt_of_lt_of_le HZ1.out.size HT.out.low)
      have hne2 := Nat.ne_of_gt (Nat.lt_of_lt_of_le HZ1.out.size HT.out.low)
      (try simp only [World.size_drew] at hne1 hne2)
      go_wp2_with fail
      rcases HOK.out with ⟨rfl, hy⟩ | ⟨rfl, rfl, rfl⟩
      · have hy1 : (Y == 0) = false := by simp; omega
        go_region
        all_goals
          go_wp2_with fail
          (try simp only [Exit.inBlock, Exit.then])
          obtain ⟨d0, d2, d3⟩ := HZ.out.ret (.int .i64 X) (.int .i64 Y)
          refine bodyPost_ret (by simp [results, Try.results15, go_sem, d0, d2]; try rfl) rfl ?_
          exact ⟨rfl, belowN d3 1⟩
      · go_region
        all_goals
          go_wp2_with fail
          (try simp only [Exit.inBlock, Exit.then])
          obtain ⟨d0, d2, d3⟩ := HZ.out.ret (.int .i64 0) (.int .i64 0)
          refine bodyPost_ret (by simp [results, Try.results15, go_sem, d0, d2]; try rfl) rfl ?_
          exact ⟨rfl, belowN d3 1⟩
  · have hs2 : isSeq l = false := by simpa using hs
    have HP : ∀ w', ZG w w' → Calls Try.prog 31 #[va] w' (Ret w' (.tuple #[.agg (phA z32 0), .bool false])) := fun w' hz => phasesOf_not va l w' (hva.step hz) hs2 hla
    obtain ⟨m1, m2, m3⟩ := me_bad l (Or.inl hs2)
    rw [m1, m2, m3]
    have HP' := Lib.hid HP
    have HZ0 := Lib.hid hz0
    clear HP hz0 m1 m2 m3 hs hs2 hva
    go_enter Try.func15, Try.ntmps15
    go_wp2_with fail
    refine (HP'.out _ HZ0.out).mono ?_
    rintro e w1 ⟨rfl, hb1⟩
    have HZ1 := Lib.hid (HZ0.out.step hb1)
    clear hb1
    go_wp2_with (first
      | (refine wpList_alloc_big rfl 43 rfl (phA z32 0) zeroPh ?_)
      | (refine wpList_store_big rfl 43 (.tmp 4) (.tmp 10) rfl w1.heap.size (phA z32 0) rfl rfl 43 _ (heap_alloc_new w1 _) 33 infoPh (phA_size _ _ z32_length) (phA_size _ _ z32_length) (phA_one _ _) w1.heap.size w1 (belowa (Below.refl _ _) _) (Nat.le_refl _) ?_; intro w3 hg3 ho3 hz3 hb3; have HZ3 := Lib.hid (HZ1.out.step hb3); have ⟨z1, z2, z3, z4, z5, z6⟩ := HZ3.out; clear hg3 ho3 hz3 hb3))
    (try simp only [Exit.inBlock, Exit.then])
    obtain ⟨d0, d2, d3⟩ := HZ3.out.ret (.int .i64 0) (.int .i64 0)
    refine bodyPost_ret (by simp [results, Try.results15, go_sem, d0, d2]; try rfl) rfl ?_
    exact ⟨rfl, d3⟩
end Go.Proofs.Ytmckophclehkpab
