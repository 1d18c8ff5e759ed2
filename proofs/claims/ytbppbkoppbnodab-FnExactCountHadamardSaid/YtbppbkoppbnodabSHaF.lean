/- The model's haFirst, haIs, IsHadamard, FirstPairOfRows. -/
import Derived.Test.YtbppbkoppbnodabSHa
import Derived.Test.YtbppbkoppbnodabSMa
import Derived.Test.YtbppbkoppbnodabMaF
import Derived.Test.YtbppbkoppbnodabMaT
import Derived.Deep.RegionHeld3
namespace Go.Proofs.Ytbppbkoppbnodab
set_option maxRecDepth 100000
open Go.RowKit

theorem own_two (w : World) (x y : Int) (B : Nat) (hB : B ≤ w.heap.size) : Own (w.alloc (.cells #[.int .i64 x, .int .i64 y] 3)) B (.slice (some ⟨w.heap.size, 0, none⟩) 2 2) [x, y] := by
  refine ⟨rfl, Or.inr ⟨w.heap.size, 2, #[.int .i64 x, .int .i64 y], rfl, hB, heap_alloc_new w _, Nat.le_refl _, by unfold maxLen; omega, rfl, rfl⟩⟩
set_option maxRecDepth 100000 in
set_option maxHeartbeats 2000000 in
theorem haFirst_any (v : Value) (m : List (List Int)) (w : World) (hv : IR w v m) (hok : maOk m = true) : Calls Try.prog 63 #[v] w (Makes w (fpL m)) := by
  obtain ⟨a, cap, rfl⟩ := hv.slice
  have hsz := (maOk_parts hok).1
  have HOK := Lib.hid hok
  have HV := Lib.hid hv
  obtain ⟨F, hF⟩ : ∃ F, F = fpL m := ⟨_, rfl⟩
  rw [← hF]
  have hF0 : F = foL m 0 (m.length - 0) := hF
  have HF0 := Lib.hid hF0
  clear hok hv hF hF0
  go_enter Try.func63, Try.ntmps63
  go_wp2_with fail
  go_loopw [7] (fun x wr => ∃ i : Nat, i ≤ m.length ∧ x = .int .i64 i ∧ F = foL m i (m.length - i) ∧ Below w.heap.size w wr) (fun x _ => m.length - (intOf x).toNat)
  case atStart => exact ⟨0, Nat.zero_le _, rfl, HF0.out, by go_grown⟩
  case round =>
    obtain ⟨i, hi, rfl, hFi, hbel⟩ := hrel
    have HB := Lib.hid hbel
    clear hbel
    by_cases hlt : i < m.length
    · have h0 : (0 : Int) ≤ (i : Int) := by omega
      have h1 : (i : Int) < (m.length : Int) := by omega
      rw [foL_succ m i hlt] at hFi
      have HFI := Lib.hid hFi
      clear hFi
      go_wp2_with fail
      go_loopw [4] (fun y wq => ∃ j : Nat, i < j ∧ j ≤ m.length ∧ y = .int .i64 j ∧ F = (match frP (badP m i) j (m.length - j) with | some k => [(i : Int), (k : Int)] | none => foL m (i + 1) (m.length - (i + 1))) ∧ Below w.heap.size w wq) (fun y _ => m.length - (intOf y).toNat)
      case atStart => exact ⟨i + 1, by omega, by omega, by go_num, HFI.out, HB.out⟩
      case round =>
        obtain ⟨j, hij, hj, rfl, hFj, hbq⟩ := hrel
        have HBQ := Lib.hid hbq
        clear hbq
        by_cases hjl : j < m.length
        · obtain ⟨-, b, off, u, rfl, c1, hu⟩ := (HV.out.below HBQ.out).at i hlt
          obtain ⟨-, b', off', u', hae, c2, hu'⟩ := (HV.out.below HBQ.out).at j hjl
          simp only [Option.some.injEq, Addr.mk.injEq, and_true] at hae
          obtain ⟨rfl, rfl⟩ := hae
          have hsi := maOk_seq HOK.out i hlt
          have hsj := maOk_seq HOK.out j hjl
          have hll : (m.getD i []).length = (m.getD j []).length := by rw [((maOk_parts HOK.out).2 i hlt).1, ((maOk_parts HOK.out).2 j hjl).1]
          have hx1 : inS vx m i j = apS vx (m.getD i []) (m.getD j []) 0 := rfl
          have hy1 : inS vy m i j = apS vy (m.getD i []) (m.getD j []) 0 := rfl
          obtain ⟨l, hl⟩ : ∃ l, l = m.getD i [] := ⟨_, rfl⟩
          obtain ⟨l', hl'⟩ : ∃ l, l = m.getD j [] := ⟨_, rfl⟩
          rw [← hl] at hu hsi hll hx1 hy1
          rw [← hl'] at hu' hsj hll hx1 hy1
          have HIN : ∀ w', IS w' u l → IS w' u' l' → Calls Try.prog 40 #[u, u'] w' (Ret w' (.agg #[.int .i64 (inS vx m i j), .int .i64 (inS vy m i j)])) := fun w' p q => by rw [hx1, hy1]; exact haInner_any u u' l l' w' p q hsi hsj hll
          have hbad : badP m i j = !(decide (inS vx m i j = 0) && decide (inS vy m i j = 0)) := rfl
          obtain ⟨X, hX⟩ : ∃ X, X = inS vx m i j := ⟨_, rfl⟩
          obtain ⟨Y, hY⟩ : ∃ Y, Y = inS vy m i j := ⟨_, rfl⟩
          rw [← hX, ← hY] at HIN hbad
          have HIN' := Lib.hid HIN
          have HFJ := Lib.hid hFj
          have HBAD := Lib.hid hbad
          clear HIN hX hY hx1 hy1 hl hl' hsi hsj hll hFj hbad
          have h0j : (0 : Int) ≤ (j : Int) := by omega
          have h1j : (j : Int) < (m.length : Int) := by omega
          by_cases hX0 : X = 0
          · by_cases hY0 : Y = 0
            · subst hX0 hY0
              go_wp2_with fail
              go_region_held3 (fun w' => w'.cell? ⟨b, off + i, none⟩ = some u ∧ w'.cell? ⟨b, off + j, none⟩ = some u' ∧ IS w' u l ∧ IS w' u' l' ∧ Below wr.heap.size wr w')
                (first | (exact ⟨keepd c1, keepd c2, hu, hu', belowN (Below.refl _ _) 1⟩) | (go_split_ands; first | exact ⟨by assumption, by assumption, by assumption, by assumption, by assumption⟩ | exact ⟨keepc hb (by assumption), keepc hb (by assumption), IS.below (by assumption) hb, IS.below (by assumption) hb, joins (by assumption) hb⟩))
                (first
                  | (go_at_call 40; go_split_ands; (with_reducible refine (HIN'.out _ (by assumption) (by assumption)).mono ?_); rintro e w' ⟨rfl, hb⟩))
              go_split_ands
              have HBN := Lib.hid (joins HBQ.out ‹Below wr.heap.size wr _›)
              go_wp2_with fail
              go_roundw
              case rel => exact ⟨j + 1, by omega, by omega, by go_num, by rw [HFJ.out, frP_no hjl (by rw [HBAD.out]; simp)], HBN.out⟩
              case measure => simp [intOf]; omega
            · subst hX0
              go_wp2_with fail
              go_region_held3 (fun w' => w'.cell? ⟨b, off + i, none⟩ = some u ∧ w'.cell? ⟨b, off + j, none⟩ = some u' ∧ IS w' u l ∧ IS w' u' l' ∧ Below wr.heap.size wr w')
                (first | (exact ⟨keepd c1, keepd c2, hu, hu', belowN (Below.refl _ _) 1⟩) | (go_split_ands; first | exact ⟨by assumption, by assumption, by assumption, by assumption, by assumption⟩ | exact ⟨keepc hb (by assumption), keepc hb (by assumption), IS.below (by assumption) hb, IS.below (by assumption) hb, joins (by assumption) hb⟩))
                (first
                  | (go_at_call 40; go_split_ands; (with_reducible refine (HIN'.out _ (by assumption) (by assumption)).mono ?_); rintro e w' ⟨rfl, hb⟩))
              go_split_ands
              have HBN := Lib.hid (joins HBQ.out ‹Below wr.heap.size wr _›)
              go_wp2_with fail
              go_returns
              refine ⟨_, rfl, ?_, belowa HBN.out _⟩
              have hf := HFJ.out
              rw [frP_yes hjl (by rw [HBAD.out]; simp; omega)] at hf
              rw [hf]
              exact own_two _ _ _ _ HBN.out.size
          · go_wp2_with fail
            go_region_held3 (fun w' => w'.cell? ⟨b, off + i, none⟩ = some u ∧ w'.cell? ⟨b, off + j, none⟩ = some u' ∧ IS w' u l ∧ IS w' u' l' ∧ Below wr.heap.size wr w')
              (first | (exact ⟨keepd c1, keepd c2, hu, hu', belowN (Below.refl _ _) 1⟩) | (go_split_ands; first | exact ⟨by assumption, by assumption, by assumption, by assumption, by assumption⟩ | exact ⟨keepc hb (by assumption), keepc hb (by assumption), IS.below (by assumption) hb, IS.below (by assumption) hb, joins (by assumption) hb⟩))
              (first
                | (go_at_call 40; go_split_ands; (with_reducible refine (HIN'.out _ (by assumption) (by assumption)).mono ?_); rintro e w' ⟨rfl, hb⟩))
            go_split_ands
            have HBN := Lib.hid (joins HBQ.out ‹Below wr.heap.size wr _›)
            go_wp2_with fail
            go_returns
            refine ⟨_, rfl, ?_, belowa HBN.out _⟩
            have hf := HFJ.out
            rw [frP_yes hjl (by rw [HBAD.out]; simp; omega)] at hf
            rw [hf]
            exact own_two _ _ _ _ HBN.out.size
        · have he : j = m.length := by omega
          subst he
          rw [frP_end (Nat.le_refl _)] at hFj
          have HFJ := Lib.hid hFj
          clear hFj
          go_wp2_with fail
          go_roundw
          case rel => exact ⟨i + 1, by omega, by go_num, HFJ.out, HBQ.out⟩
          case measure => simp [intOf]; omega
    · have he : i = m.length := by omega
      subst he
      rw [foL_end m _ (Nat.le_refl _)] at hFi
      have HFI := Lib.hid hFi
      clear hFi
      go_wp2_with fail
      go_returns
      exact ⟨_, rfl, by rw [HFI.out]; exact World.ownsRow_nil _ _ _ _, HB.out⟩
theorem haIs_any (v : Value) (m : List (List Int)) (w : World) (hv : IR w v m) (hok : maOk m = true) : Calls Try.prog 45 #[v] w (Ret w (.bool (haB m))) := by
  obtain ⟨a, cap, rfl⟩ := hv.slice
  have HF := Lib.hid (haFirst_any _ m w hv hok)
  have hf2 := fpL_len m
  clear hv hok
  unfold haB
  obtain ⟨l, hl⟩ : ∃ l, l = fpL m := ⟨_, rfl⟩
  rw [← hl] at HF hf2 ⊢
  clear hl
  obtain ⟨q, hq⟩ : ∃ q, q = decide (l.length = 0) := ⟨_, rfl⟩
  rw [← hq]
  have HQ := Lib.hid hq
  clear hq
  go_enter Try.func45, Try.ntmps45
  go_wp2_with fail
  refine (HF.out).mono ?_
  rintro e w1 ⟨v1, rfl, ho1, hb1⟩
  obtain ⟨a1, c1, rfl⟩ := ho1.is.sl
  clear ho1
  by_cases h0 : (l.length : Int) = 0
  · go_wp2_with fail
    go_returns
    exact ⟨ret_bool (by rw [HQ.out, decide_eq_true (by omega)]), hb1⟩
  · go_wp2_with fail
    go_returns
    exact ⟨ret_bool (by rw [HQ.out, decide_eq_false (by omega)]; simpa using h0), hb1⟩
theorem sisHadamard (v : Value) (m : List (List Int)) (w : World) (hv : IR w v m) : Calls Try.prog 19 #[v] w (Ret w (.tuple #[.bool (maOk m && haB m), .bool (maOk m)])) := by
  obtain ⟨a, cap, rfl⟩ := hv.slice
  have HG := Lib.hid (haGood_any _ m w hv)
  cases hm : maOk m with
  | false =>
    rw [hm] at HG
    clear hv hm
    rw [Bool.false_and]
    go_enter Try.func19, Try.ntmps19
    go_wp2_with fail
    refine (HG.out).mono ?_
    rintro e w1 ⟨rfl, hb1⟩
    go_wp2_with fail
    go_returns
    exact ⟨rfl, hb1⟩
  | true =>
    rw [hm] at HG
    have HH := Lib.hid (fun w' (h : Below w.heap.size w w') => haIs_any _ m w' (hv.below h) hm)
    clear hv hm
    rw [Bool.true_and]
    go_enter Try.func19, Try.ntmps19
    go_wp2_with fail
    refine (HG.out).mono ?_
    rintro e w1 ⟨rfl, hb1⟩
    go_wp2_with fail
    refine (HH.out _ hb1).mono ?_
    rintro e w2 ⟨rfl, hb2⟩
    go_wp2_with fail
    go_returns
    exact ⟨rfl, joins hb1 hb2⟩
def fpA (m : List (List Int)) : List Int := if maOk m then fpL m else []
def fpOk (m : List (List Int)) : Bool := maOk m && decide (0 < (fpL m).length)
theorem fpA_len (m : List (List Int)) : (fpA m).length ≤ 1048576 := by
  have := fpL_len m
  unfold fpA; split
  · omega
  · simp
theorem sfirstPairOfRows (v : Value) (m : List (List Int)) (w : World) (hv : IR w v m) : Calls Try.prog 29 #[v] w (MakesB w (fpA m) (fpOk m)) := by
  obtain ⟨a, cap, rfl⟩ := hv.slice
  have HG := Lib.hid (haGood_any _ m w hv)
  unfold fpA fpOk
  cases hm : maOk m with
  | false =>
    rw [hm] at HG
    clear hv hm
    rw [Bool.false_and, if_neg (by simp)]
    go_enter Try.func29, Try.ntmps29
    go_wp2_with fail
    refine (HG.out).mono ?_
    rintro e w1 ⟨rfl, hb1⟩
    go_wp2_with fail
    go_returns
    exact ⟨_, rfl, World.ownsRow_nil _ _ _ _, hb1⟩
  | true =>
    rw [hm] at HG
    have HH := Lib.hid (fun w' (h : Below w.heap.size w w') => haFirst_any _ m w' (hv.below h) hm)
    have hf2 := fpL_len m
    clear hv hm
    rw [Bool.true_and, if_pos rfl]
    obtain ⟨l, hl⟩ : ∃ l, l = fpL m := ⟨_, rfl⟩
    rw [← hl] at HH hf2 ⊢
    clear hl
    obtain ⟨q, hq⟩ : ∃ q, q = decide (0 < l.length) := ⟨_, rfl⟩
    rw [← hq]
    have HQ := Lib.hid hq
    clear hq
    go_enter Try.func29, Try.ntmps29
    go_wp2_with fail
    refine (HG.out).mono ?_
    rintro e w1 ⟨rfl, hb1⟩
    go_wp2_with fail
    refine (HH.out _ hb1).mono ?_
    rintro e w2 ⟨v2, rfl, ho2, hb2⟩
    obtain ⟨a2, c2, rfl⟩ := ho2.is.sl
    have HO := Lib.hid (ho2.mono hb1.size)
    have HB := Lib.hid (joins hb1 hb2)
    clear ho2 hb2
    by_cases h0 : 0 < l.length
    · have h0' : (0 : Int) < (l.length : Int) := by omega
      go_wp2_with fail
      go_returns
      exact ⟨_, by rw [HQ.out, decide_eq_true h0]; rfl, HO.out, HB.out⟩
    · have h0' : ¬ (0 : Int) < (l.length : Int) := by omega
      go_wp2_with fail
      go_returns
      exact ⟨_, by rw [HQ.out, decide_eq_false h0]; rfl, HO.out, HB.out⟩
def inOk (m : List (List Int)) (i j : Int) : Bool := maRow m i && maRow m j
def inF (f : Int → Int) (m : List (List Int)) (i j : Int) : Int := if inOk m i j then inS f m i.toNat j.toNat else 0
set_option maxRecDepth 100000 in
set_option maxHeartbeats 2000000 in
theorem sinnerOf (v : Value) (m : List (List Int)) (i j : Int) (w : World) (hv : IR w v m) : Calls Try.prog 16 #[v, .int .i64 i, .int .i64 j] w (Ret w (.tuple #[.agg #[.int .i64 (inF vx m i j), .int .i64 (inF vy m i j)], .bool (inOk m i j)])) := by
  have hz0 := ZG.start w 28
  obtain ⟨a, cap, rfl⟩ := hv.slice
  have HR1 := Lib.hid (haRow_any _ m i _ (hv.below hz0.below))
  have HR2 := Lib.hid (fun w' (h : ZG w w') => haRow_any _ m j w' (hv.below h.below))
  have HV := Lib.hid hv
  have HZ0 := Lib.hid hz0
  clear hv hz0
  unfold inF inOk
  cases h1 : maRow m i with
  | false =>
    rw [h1] at HR1
    clear HR2 h1
    rw [Bool.false_and]
    simp only [Bool.false_eq_true, if_false]
    go_enter Try.func16, Try.ntmps16
    go_wp2_with fail
    refine (HR1.out).mono ?_
    rintro e w1 ⟨rfl, hb1⟩
    have hz1 := HZ0.out.step hb1
    have HR := Lib.hid hz1
    obtain ⟨z1, z2, z3, z4, z5, z6⟩ := hz1
    clear hb1
    go_wp2_with fail
    (try simp only [Exit.inBlock, Exit.then])
    obtain ⟨d0, d2, d3⟩ := HR.out.ret (.int .i64 0) (.int .i64 0)
    refine bodyPost_ret (by simp [results, Try.results16, go_sem, d0, d2]; try rfl) rfl ?_
    exact ⟨rfl, d3⟩
  | true =>
    cases h2 : maRow m j with
    | false =>
      rw [h1] at HR1
      rw [h2] at HR2
      clear h1 h2
      rw [Bool.and_false]
      simp only [Bool.false_eq_true, if_false]
      go_enter Try.func16, Try.ntmps16
      go_wp2_with fail
      refine (HR1.out).mono ?_
      rintro e w1 ⟨rfl, hb1⟩
      have HZ1 := Lib.hid (HZ0.out.step hb1)
      clear hb1
      go_wp2_with fail
      refine (HR2.out _ HZ1.out).mono ?_
      rintro e w2 ⟨rfl, hb2⟩
      have hz1 := HZ1.out.step hb2
      have HR := Lib.hid hz1
      obtain ⟨z1, z2, z3, z4, z5, z6⟩ := hz1
      clear hb2
      go_wp2_with fail
      (try simp only [Exit.inBlock, Exit.then])
      obtain ⟨d0, d2, d3⟩ := HR.out.ret (.int .i64 0) (.int .i64 0)
      refine bodyPost_ret (by simp [results, Try.results16, go_sem, d0, d2]; try rfl) rfl ?_
      exact ⟨rfl, d3⟩
    | true =>
      rw [h1] at HR1
      rw [h2] at HR2
      obtain ⟨hok, hi0, hi1, hi2⟩ := maRow_parts h1
      obtain ⟨-, hj0, hj1, hj2⟩ := maRow_parts h2
      clear h1 h2
      rw [Bool.true_and]
      simp only [if_true]
      obtain ⟨i, rfl⟩ := Int.eq_ofNat_of_zero_le hi0
      obtain ⟨j, rfl⟩ := Int.eq_ofNat_of_zero_le hj0
      simp only [Int.toNat_natCast] at hi1 hj1 ⊢
      have hsi := maOk_seq hok i hi1
      have hsj := maOk_seq hok j hj1
      have hll : (m.getD i []).length = (m.getD j []).length := by rw [((maOk_parts hok).2 i hi1).1, ((maOk_parts hok).2 j hj1).1]
      have hx1 : inS vx m i j = apS vx (m.getD i []) (m.getD j []) 0 := rfl
      have hy1 : inS vy m i j = apS vy (m.getD i []) (m.getD j []) 0 := rfl
      have h8 := (maOk_parts hok).1
      clear hok
      obtain ⟨X, hX⟩ : ∃ X, X = inS vx m i j := ⟨_, rfl⟩
      obtain ⟨Y, hY⟩ : ∃ Y, Y = inS vy m i j := ⟨_, rfl⟩
      rw [← hX] at hx1 ⊢
      rw [← hY] at hy1 ⊢
      clear hX hY
      go_enter Try.func16, Try.ntmps16
      go_wp2_with fail
      refine (HR1.out).mono ?_
      rintro e w1 ⟨rfl, hb1⟩
      have HZ1 := Lib.hid (HZ0.out.step hb1)
      clear hb1
      go_wp2_with fail
      refine (HR2.out _ HZ1.out).mono ?_
      rintro e w2 ⟨rfl, hb2⟩
      have hz2 := HZ1.out.step hb2
      have HZ2 := Lib.hid hz2
      clear hb2
      obtain ⟨-, b, off, u, rfl, c1, hu⟩ := (HV.out.below hz2.below).at i hi1
      obtain ⟨-, b', off', u', hae, c2, hu'⟩ := (HV.out.below hz2.below).at j hj1
      simp only [Option.some.injEq, Addr.mk.injEq, and_true] at hae
      obtain ⟨rfl, rfl⟩ := hae
      obtain ⟨l, hl⟩ : ∃ l, l = m.getD i [] := ⟨_, rfl⟩
      obtain ⟨l', hl'⟩ : ∃ l, l = m.getD j [] := ⟨_, rfl⟩
      rw [← hl] at hu hsi hll hx1 hy1
      rw [← hl'] at hu' hsj hll hx1 hy1
      have HIN' := Lib.hid (show ∀ w', IS w' u l → IS w' u' l' → Calls Try.prog 40 #[u, u'] w' (Ret w' (.agg #[.int .i64 X, .int .i64 Y])) from fun w' p q => by rw [hx1, hy1]; exact haInner_any u u' l l' w' p q hsi hsj hll)
      clear hx1 hy1 hl hl' hsi hsj hll
      have hud := hu.below (belowN (Below.refl _ _) 1)
      have hud' := hu'.below (belowN (Below.refl _ _) 1)
      have hzd := hz2.step (belowN (Below.refl _ _) 1)
      obtain ⟨z1, z2, z3, z4, z5, z6⟩ := hz2
      go_wp2_with fail
      go_region_with (go_at_call 40; refine (HIN'.out _ (by assumption) (by assumption)).mono ?_; rintro e w' ⟨rfl, hb⟩; have hz3 := ZG.step (by assumption) hb; have ⟨_, _, _, _, _, _⟩ := hz3)
      all_goals
        have HR := Lib.hid (show ZG w w' from by assumption)
        go_wp2_with fail
        (try simp only [Exit.inBlock, Exit.then])
        obtain ⟨d0, d2, d3⟩ := HR.out.ret (.int .i64 X) (.int .i64 Y)
        refine bodyPost_ret (by simp [results, Try.results16, go_sem, d0, d2]; try rfl) rfl ?_
        exact ⟨rfl, d3⟩
end Go.Proofs.Ytbppbkoppbnodab
