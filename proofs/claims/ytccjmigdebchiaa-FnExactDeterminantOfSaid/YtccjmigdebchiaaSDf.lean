/- The model's DeterminantOf. -/
import Derived.Test.YtccjmigdebchiaaSDe
import Derived.Test.YtccjmigdebchiaaSMa
import Derived.Test.YtccjmigdebchiaaIDf
namespace Go.Proofs.Ytccjmigdebchiaa
set_option maxRecDepth 100000
open Go.RowKit

theorem atM_in {m : List (List Int)} (h : maOk m = true) (i j : Nat) : 0 ≤ atM m i j ∧ atM m i j ≤ 3 := by
  unfold atM
  by_cases hi : i < m.length
  · have h2 := (maOk_parts h).2 i hi
    by_cases hj : j < (m.getD i []).length
    · exact allIn_getD h2.2 j hj
    · have : (m.getD i []).getD j 0 = 0 := by rw [List.getD_eq_getElem?_getD, List.getElem?_eq_none (Nat.le_of_not_lt hj)]; rfl
      rw [this]; omega
  · have : m.getD i [] = [] := by rw [List.getD_eq_getElem?_getD, List.getElem?_eq_none (Nat.le_of_not_lt hi)]; rfl
    rw [this]; simp
def rwV (m : List (List Int)) (k : Nat) : List (Int × Int) := genG m.length (fun c => vx (atM m k c)) (fun c => vy (atM m k c))
theorem rwV_all (m : List (List Int)) : (List.range m.length).map (rwV m) = gmG (atM m) m.length 0 (List.range m.length) := by
  unfold gmG rwV genG
  apply List.map_congr_left
  intro r _
  rw [Nat.zero_add]
theorem rwV_succ (m : List (List Int)) (k : Nat) : (List.range (k + 1)).map (rwV m) = (List.range k).map (rwV m) ++ [rwV m k] := by rw [List.range_succ, List.map_append]; rfl
set_option maxRecDepth 100000 in
set_option maxHeartbeats 4000000 in
theorem sdeterminantOf (v : Value) (m : List (List Int)) (w : World) (hv : IR w v m) : Calls Try.prog 7 #[v] w (Ret w (.tuple #[.agg #[.int .i64 (deA m).1, .int .i64 (deA m).2], .bool (deOk m)])) := by
  have hz0 := ZG.start w 25
  obtain ⟨a, cap, rfl⟩ := hv.slice
  have HG := Lib.hid (haGood_any _ m _ (hv.below hz0.below))
  have HV := Lib.hid hv
  have HZ0 := Lib.hid hz0
  clear hz0
  cases hm : maOk m with
  | false =>
    have h1 : deOk m = false := by unfold deOk mfN; rw [hm]; rfl
    have h2 : deA m = (0, 0) := by unfold deA; rw [h1]; rfl
    rw [hm] at HG
    rw [h1, h2]
    clear hv hm h1 h2
    go_enter Try.func7, Try.ntmps7
    go_wp2_with fail
    refine (HG.out).mono ?_
    rintro e w1 ⟨rfl, hb1⟩
    have hz1 := HZ0.out.step hb1
    have HR := Lib.hid hz1
    obtain ⟨z1, z2, z3, z4, z5, z6⟩ := hz1
    clear hb1
    go_wp2_with fail
    (try simp only [Exit.inBlock, Exit.then])
    obtain ⟨d0, d2, d3⟩ := HR.out.ret (.int .i64 0) (.int .i64 0)
    refine bodyPost_ret (by simp [results, Try.results7, go_sem, d0, d2]; try rfl) rfl ?_
    exact ⟨rfl, d3⟩
  | true =>
    rw [hm] at HG
    have hmp := maOk_parts hm
    have hN : mfN m = m.length := by unfold mfN; rw [if_pos hm]
    by_cases h5 : m.length ≤ 5
    · have h1 : deOk m = true := by unfold deOk; rw [hN]; exact decide_eq_true ⟨hmp.1.1, h5⟩
      have h2 : deA m = dt (atM m) m.length 0 (List.range m.length) := by unfold deA; rw [h1, hN]; rfl
      have HDT := Lib.hid (fun (B : Nat) (v : Value) (w : World) (h : OwnRG w B v ((List.range m.length).map (rwV m))) => haDeterminant_any (atM m) (atM_in hm) m.length h5 0 (List.range m.length) List.length_range B v w (by rw [← rwV_all]; exact h))
      rw [← h2] at HDT
      rw [h1]
      obtain ⟨RX, hRX⟩ : ∃ x, x = (deA m).1 := ⟨_, rfl⟩
      obtain ⟨RY, hRY⟩ : ∃ x, x = (deA m).2 := ⟨_, rfl⟩
      rw [← hRX, ← hRY] at HDT ⊢
      have HRS := Lib.hid (fun k => rwV_succ m k)
      have HAT := Lib.hid (fun k c => show atM m k c = (m.getD k []).getD c 0 from rfl)
      have HIN := Lib.hid (fun k c => atM_in hm k c)
      have HLN := Lib.hid (fun k hk => (hmp.2 k hk).1)
      have HRV := Lib.hid (fun k => show rwV m k = genG m.length (fun c => vx (atM m k c)) (fun c => vy (atM m k c)) from rfl)
      obtain ⟨n, hn⟩ : ∃ n, n = m.length := ⟨_, rfl⟩
      have hn1 := hmp.1.1
      rw [← hn] at HDT HG HLN HRV h5 hn1 ⊢
      have HNN := Lib.hid hn
      rw [← hn] at HV
      clear hv hm hmp hN h1 h2 hRX hRY hn
      go_enter Try.func7, Try.ntmps7
      go_wp2_with fail
      obtain ⟨w0, hw0⟩ : ∃ w', w' = w.alloc (.cells #[.int .i64 0, .int .i64 0] 25) := ⟨_, rfl⟩
      rw [← hw0] at HG HZ0 ⊢
      have hs0 : w0.heap.size = w.heap.size + 1 := by rw [hw0]; simp
      have HS0 := Lib.hid hs0
      clear hw0 hs0
      refine (HG.out).mono ?_
      rintro e w1 ⟨rfl, hb1⟩
      have HB1 := Lib.hid hb1
      clear hb1
      go_wp2_with fail
      go_loopw [21, 4] (fun i o wr => ∃ k : Nat, k ≤ n ∧ i = .int .i64 k ∧ OwnRG wr w0.heap.size o ((List.range k).map (rwV m)) ∧ Below w0.heap.size w0 wr) (fun i _ _ => n - (intOf i).toNat)
      case atStart => exact ⟨0, Nat.zero_le _, rfl, OwnRG.nil _ _, HB1.out⟩
      case round =>
        obtain ⟨k, hk, rfl, hown, hbel⟩ := hrel
        have HB := Lib.hid hbel
        have HO := Lib.hid hown
        clear hown hbel
        by_cases hlt : k < n
        · have hlt2 : k < m.length := by rw [← HNN.out]; exact hlt
          have h0 : (0 : Int) ≤ (k : Int) := by omega
          have h1 : (k : Int) < (n : Int) := by omega
          obtain ⟨-, b, off, u, rfl, c1, hu⟩ := ((HV.out.below HZ0.out.below).below HB.out).at k hlt2
          have hlen := HLN.out k hlt
          have hrs := HRS.out k
          have hrv := HRV.out k
          obtain ⟨l, hl⟩ : ∃ l, l = m.getD k [] := ⟨_, rfl⟩
          have hat : ∀ c, atM m k c = l.getD c 0 := fun c => by rw [hl]; exact HAT.out k c
          rw [← hl] at hu hlen
          obtain ⟨ua, uc, rfl⟩ := hu.slice
          obtain ⟨gb, go, rfl, hc⟩ := hu.cellsAt (by omega)
          rw [hlen] at c1 hc
          obtain ⟨X, hX⟩ : ∃ X : Nat → Int, X = fun c => vx (atM m k c) := ⟨_, rfl⟩
          obtain ⟨Y, hY⟩ : ∃ X : Nat → Int, X = fun c => vy (atM m k c) := ⟨_, rfl⟩
          rw [← hX, ← hY] at hrv
          have HXY := Lib.hid (fun c => show X c = vx (atM m k c) ∧ Y c = vy (atM m k c) by rw [hX, hY]; exact ⟨rfl, rfl⟩)
          have HCC := Lib.hid (show ∀ c, c < n → wr.cell? ⟨gb, go + c, none⟩ = some (.int .i64 (atM m k c)) from fun c hc' => by rw [hat]; exact hc c hc')
          rw [hrv] at hrs
          have HRK := Lib.hid hrs
          have HGK := Lib.hid (show ((List.range k).map (rwV m)).length ≤ 1048576 by rw [List.length_map, List.length_range]; omega)
          clear hu hl hat hc hX hY hrs hrv hlen hlt2
          obtain ⟨w2, hw2⟩ : ∃ w', w' = wr := ⟨_, rfl⟩
          rw [← hw2] at HB HO HCC c1
          rw [← hw2]
          clear hw2
          go_wp2_with fail
          clear c1
          go_loopw [27, 7] (fun i o wr => ∃ c : Nat, c ≤ n ∧ i = .int .i64 c ∧ OwnG wr w2.heap.size o (genG c X Y) ∧ Below w2.heap.size w2 wr) (fun i _ _ => n - (intOf i).toNat)
          case atStart => exact ⟨0, Nat.zero_le _, rfl, OwnG.nil _ _, Below.refl _ _⟩
          case round =>
            obtain ⟨c, hc, rfl, hown, hbel⟩ := hrel
            have HB2 := Lib.hid hbel
            have HO2 := Lib.hid hown
            clear hown hbel
            by_cases hlc : c < n
            · have h2 : (0 : Int) ≤ (c : Int) := by omega
              have h3 : (c : Int) < (n : Int) := by omega
              have c1 := keepc HB2.out (HCC.out c hlc)
              have hp := HIN.out k c
              have hxy := HXY.out c
              have hgs := genG_succ c X Y
              obtain ⟨z, hz⟩ : ∃ z, z = atM m k c := ⟨_, rfl⟩
              rw [← hz] at c1 hp hxy
              have HPV := Lib.hid (phValue_any z hp.1 hp.2)
              rw [← hxy.1, ← hxy.2] at HPV
              obtain ⟨x, hx⟩ : ∃ x, x = X c := ⟨_, rfl⟩
              obtain ⟨y, hy⟩ : ∃ y, y = Y c := ⟨_, rfl⟩
              rw [← hx, ← hy] at HPV hgs
              have HGS := Lib.hid hgs
              have HGL := Lib.hid (show (genG c X Y).length ≤ 1048576 by rw [genG_length]; omega)
              clear hp hxy hgs hz hx hy
              go_wp2_with fail
              refine (HPV.out _).mono ?_
              rintro e w3 ⟨rfl, hb⟩
              have HB3 := Lib.hid (joins HB2.out hb)
              have HO3 := Lib.hid (HO2.out.below hb)
              clear hb c1
              go_wp2_with (at_builtin; refine wpList_pushG rfl _ _ rfl w2.heap.size _ (genG c X Y) rfl (HO3.out.alloc _) w3.heap.size 1 x y rfl (cell_new0 _ _ _ _) (cell_new1 _ _ _ _) HGL.out w2.heap.size w2 (HB3.out.alloc HB3.out.size _) (Nat.le_refl _) (by have := HB3.out.size; simp; omega) (by have := HB3.out.size; simp; omega) ?_; intro v4 w4 ho4 hb4)
              go_roundw
              case rel => exact ⟨c + 1, by omega, by go_num, by rw [HGS.out]; exact ho4, hb4⟩
              case measure => simp [intOf]; omega
            · obtain rfl : c = n := by omega
              obtain ⟨ra, rc, hre⟩ := HO2.out.is.slice
              subst hre
              go_wp2_with (at_builtin; refine wpList_pushRG rfl _ _ rfl w0.heap.size _ ((List.range k).map (rwV m)) rfl w2 HO.out (HB2.out.alloc HB2.out.size _) wr.heap.size 1 _ (genG c X Y) rfl (by simp) (HO2.out.alloc _) HGK.out w0.heap.size w0 (belowa (joins HB.out HB2.out) _) (Nat.le_refl _) HB.out.size (by have := HB.out.size; have := HB2.out.size; simp; omega) ?_; intro v5 w5 ho5 hb5; have HO5 := Lib.hid ho5; have HB5 := Lib.hid hb5; clear ho5 hb5)
              go_roundw
              case rel => exact ⟨k + 1, by omega, by go_num, by rw [HRK.out]; exact HO5.out, HB5.out⟩
              case measure => simp [intOf]; omega
        · obtain rfl : k = n := by omega
          have HD := Lib.hid (HDT.out w0.heap.size _ wr HO.out)
          have HZ := Lib.hid (HZ0.out.step HB.out)
          go_wp2_with fail
          refine (HD.out).mono ?_
          rintro e w2 ⟨rfl, hb⟩
          have HR := Lib.hid (HZ.out.step hb)
          clear hb
          obtain ⟨z1, z2, z3, z4, z5, z6⟩ := HR.out
          go_wp2_with fail
          (try simp only [Exit.inBlock, Exit.then])
          obtain ⟨d0, d2, d3⟩ := HR.out.ret (.int .i64 RX) (.int .i64 RY)
          refine bodyPost_ret (by simp [results, Try.results7, go_sem, d0, d2]; try rfl) rfl ?_
          exact ⟨rfl, d3⟩
    · have h1 : deOk m = false := by unfold deOk; rw [hN]; exact decide_eq_false (fun h => h5 h.2)
      have h2 : deA m = (0, 0) := by unfold deA; rw [h1]; rfl
      rw [h1, h2]
      have h5' : (5 : Int) < (m.length : Int) := by omega
      clear hv hm h1 h2
      go_enter Try.func7, Try.ntmps7
      go_wp2_with fail
      refine (HG.out).mono ?_
      rintro e w1 ⟨rfl, hb1⟩
      have hz1 := HZ0.out.step hb1
      have HR := Lib.hid hz1
      obtain ⟨z1, z2, z3, z4, z5, z6⟩ := hz1
      clear hb1
      go_wp2_with fail
      (try simp only [Exit.inBlock, Exit.then])
      obtain ⟨d0, d2, d3⟩ := HR.out.ret (.int .i64 0) (.int .i64 0)
      refine bodyPost_ret (by simp [results, Try.results7, go_sem, d0, d2]; try rfl) rfl ?_
      exact ⟨rfl, d3⟩
end Go.Proofs.Ytccjmigdebchiaa
