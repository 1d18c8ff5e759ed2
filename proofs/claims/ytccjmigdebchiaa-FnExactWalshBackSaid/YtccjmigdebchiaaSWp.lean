/- The model's tfWalshOf: the walk. -/
import Derived.Test.YtccjmigdebchiaaSWo
namespace Go.Proofs.Ytccjmigdebchiaa
set_option maxRecDepth 100000
open Go.RowKit

def lZ (n : Nat) (Z : Nat → Int × Int) : List (Int × Int) := genG n (fun i => (Z i).1) (fun i => (Z i).2)
theorem lZ_len (n : Nat) (Z : Nat → Int × Int) : (lZ n Z).length = n := genG_length _ _ _
theorem lZ_re (n : Nat) (Z : Nat → Int × Int) (i : Nat) (h : i < n) : gre (lZ n Z) i = (Z i).1 := genG_re _ _ _ i h
theorem lZ_im (n : Nat) (Z : Nat → Int × Int) (i : Nat) (h : i < n) : gim (lZ n Z) i = (Z i).2 := genG_im _ _ _ i h
theorem lZ_ext {n : Nat} {Z Y : Nat → Int × Int} (h : ∀ i, i < n → Z i = Y i) : lZ n Z = lZ n Y := genG_ext (fun i hi => by rw [h i hi]) (fun i hi => by rw [h i hi])
theorem lZ_set (n : Nat) (Z : Nat → Int × Int) (k : Nat) (p : Int × Int) : (lZ n Z).set k p = lZ n (fun i => if i = k then p else Z i) := by
  apply List.ext_getElem?
  intro i
  by_cases hi : i < n
  · by_cases e : i = k
    · subst e
      rw [List.getElem?_set_self (by rw [lZ_len]; exact hi)]
      simp [lZ, genG, hi]
    · rw [List.getElem?_set_ne (fun h => e h.symm)]
      simp [lZ, genG, hi, e]
  · rw [List.getElem?_eq_none (by rw [List.length_set, lZ_len]; omega), List.getElem?_eq_none (by rw [lZ_len]; omega)]
theorem wn_next (s n : Nat) (Z : Nat → Int × Int) (k : Nat) (h : k / s % 2 = 0) (hs : 0 < s) : ((lZ n (wnF s Z k)).set k ((Z k).1 + (Z (k + s)).1, (Z k).2 + (Z (k + s)).2)).set (k + s) ((Z k).1 + -(Z (k + s)).1, (Z k).2 + -(Z (k + s)).2) = lZ n (wnF s Z (k + 1)) := by
  rw [lZ_set, lZ_set]
  apply lZ_ext
  intro i _
  rw [wn_even s Z k h hs i]
  by_cases e : i = k
  · subst e
    rw [if_neg (by omega), if_pos rfl, if_pos rfl]
  · by_cases e2 : i = k + s
    · rw [if_pos e2, if_neg e, if_pos e2]
    · rw [if_neg e2, if_neg e, if_neg e, if_neg e2]
theorem wr_in {q k n : Nat} (h : q ≤ k) (h1 : (k : Int) < (n : Int)) (h2 : n ≤ 32) : wrap64 (q : Int) = (q : Int) := IntWalk.wrap64_in _ ⟨by omega, by omega⟩
set_option maxRecDepth 100000 in
set_option maxHeartbeats 4000000 in
theorem tfWalshOf_any (v : Value) (l : List (Int × Int)) (w : World) (hv : IG w v l) (hok : waOk0 l = true) : Calls Try.prog 37 #[v] w (MakesG w (waL l)) := by
  have hz := (Bool.and_eq_true_iff.1 hok).1
  have hgl := (Bool.and_eq_true_iff.1 hok).2
  have hlen := wa_cases hz
  have hup : upTo (wZ l) l.length 1000000 := fun i hi => good_in (goodL_at hgl i hi)
  have hpow := wa_pow hz
  have htr := fun j hj => tr_le (w := 2) (K := lgW l.length) (Or.inl rfl) hpow hup j hj
  have hps := fun j hj => pow_small (K := lgW l.length) (Or.inl rfl) hpow (by omega) j hj
  rcases hv with ⟨rfl, _⟩ | ⟨_, bb, off, cap, rfl, hm, hc⟩
  · simp at hlen
  have hself : lZ l.length (wZ l) = l := genG_self l
  have hout : waL l = lZ l.length (trF 2 2 (lgW l.length) (wZ l)) := rfl
  rw [hout]
  have hcl : ∀ j u, (fl l)[j]? = some u → w.cell? ((⟨bb, off, none⟩ : Addr).add j) = some u := fun j u hj => by
    have hjl : j < l.length * 2 := by have := (List.getElem?_eq_some_iff.1 hj).1; rw [fl_length] at this; exact this
    rw [Addr.add_lit]
    obtain ⟨k, hk⟩ : ∃ k, j = k * 2 ∨ j = k * 2 + 1 := ⟨j / 2, by omega⟩
    rcases hk with rfl | rfl
    · rw [fl_re l k (by omega)] at hj
      rw [(hc k (by omega)).1]; exact hj
    · rw [fl_im l k (by omega)] at hj
      rw [show off + (k * 2 + 1) = off + k * 2 + 1 by omega, (hc k (by omega)).2]; exact hj
  have HCL := Lib.hid hcl
  have HLN := Lib.hid (rfl : l.length = l.length)
  obtain ⟨n, hn⟩ : ∃ n, n = l.length := ⟨_, rfl⟩
  obtain ⟨K, hK⟩ : ∃ K, K = lgW l.length := ⟨_, rfl⟩
  have HLE := Lib.hid (show n = l.length from hn)
  rw [← hK] at hpow htr hps ⊢
  rw [← hn] at hpow htr hps hlen hself ⊢
  have hT0 : trF 2 2 0 (wZ l) = wZ l := rfl
  have hTs := fun j => show trF 2 2 (j + 1) (wZ l) = stF 2 2 (2 ^ j) (trF 2 2 j (wZ l)) from rfl
  obtain ⟨T, hT⟩ : ∃ T : Nat → Nat → Int × Int, T = fun j => trF 2 2 j (wZ l) := ⟨_, rfl⟩
  have hTj : ∀ j, trF 2 2 j (wZ l) = T j := fun j => by rw [hT]
  have HTS := Lib.hid (show ∀ j, T (j + 1) = stF 2 2 (2 ^ j) (T j) from fun j => by rw [← hTj, ← hTj]; exact hTs j)
  have HT0 := Lib.hid (show lZ n (T 0) = l by rw [← hTj, hT0]; exact hself)
  have HTR := Lib.hid (fun j (hj : j ≤ K) => show upTo (T j) n (((2 ^ j : Nat) : Int) * 1000000) by rw [← hTj]; exact htr j hj)
  have HPS := Lib.hid hps
  have HPW := Lib.hid hpow
  rw [hTj]
  have hn1 : 1 ≤ n := by omega
  have hn32 : n ≤ 32 := by omega
  clear hz hgl hlen hup hpow htr hps hself hout hcl hn hK hT0 hTs hT hTj hc hm hok
  go_enter Try.func37, Try.ntmps37
  go_wp2_with (at_builtin; refine wpList_partG rfl _ _ rfl w.heap.size _ [] l rfl (OwnG.fresh w _ (Nat.le_refl _)) ⟨bb, off, none⟩ n _ rfl HLE.out (fun j u h => keepc (belowa (Below.refl _ _) _) (HCL.out j u h)) (by rw [← HLE.out]; simp; omega) w.heap.size w (belowa (Below.refl _ _) _) (Nat.le_refl _) (by simp) (by simp) ?_; intro v1 w1 ho1 hb1 hnl1)
  rw [List.nil_append] at ho1
  have HO1 := Lib.hid (show OwnG w1 w.heap.size v1 (lZ n (T 0)) by rw [HT0.out]; exact ho1)
  have HB1 := Lib.hid hb1
  clear ho1 hb1 hnl1
  go_wp2_with fail
  go_loopw [4, 3] (fun sv o wr => ∃ j : Nat, j ≤ K ∧ sv = .int .i64 ((2 ^ j : Nat) : Int) ∧ OwnG wr w.heap.size o (lZ n (T j)) ∧ Below w.heap.size w wr) (fun sv _ _ => 100 - (intOf sv).toNat)
  case atStart => exact ⟨0, Nat.zero_le _, rfl, HO1.out, HB1.out⟩
  case round =>
    obtain ⟨j, hj, rfl, hown, hbel⟩ := hrel
    have HB := Lib.hid hbel
    clear hbel
    by_cases hlt : j < K
    · obtain ⟨p1, p2, p3, p4, -⟩ := HPS.out j hlt
      have hdv : n % (2 * 2 ^ j) = 0 := by
        rw [HPW.out, ← Nat.pow_succ', show K = (j + 1) + (K - (j + 1)) by omega, Nat.pow_add]
        exact Nat.mul_mod_right _ _
      have hle := HTR.out j (by omega)
      have hts := HTS.out j
      obtain ⟨s, hs⟩ : ∃ s, s = 2 ^ j := ⟨_, rfl⟩
      rw [← hs] at p1 p2 p3 p4 hdv hle hts ⊢
      have HP4 := Lib.hid p4
      obtain ⟨go, co, rfl, hco1, hco2, hcells⟩ := hown.parts (by rw [lZ_len]; omega)
      rw [lZ_len] at hco1
      rw [lZ_len]
      have HCO := Lib.hid hcells
      obtain ⟨w2, hw2⟩ : ∃ w2, w2 = wr := ⟨_, rfl⟩
      rw [← hw2]
      rw [← hw2] at HB HCO
      have hs0 : (0 : Int) < (s : Int) := by omega
      have hs1 : (s : Int) < (n : Int) := by omega
      clear hown hcells hco1 hco2 hw2 hs p4
      go_wp2_with (at_builtin; refine wpList_partG rfl _ _ rfl w2.heap.size _ [] (lZ n (T j)) rfl (OwnG.fresh w2 _ (Nat.le_refl _)) ⟨go, 0, none⟩ n _ rfl (lZ_len n (T j)).symm (fun q u h => by rw [Addr.add_lit, Nat.zero_add]; exact keepc (belowa (Below.refl _ _) _) (HCO.out q u h)) (by rw [lZ_len]; simp; omega) w2.heap.size w2 (belowa (Below.refl _ _) _) (Nat.le_refl _) (by simp) (by simp) ?_; intro v3 w3 ho3 hb3 hnl3)
      rw [List.nil_append] at ho3
      have hge3 : w2.heap.size ≤ (match v3.ownBlock with | some k => k | none => w2.heap.size) := by
        cases hv3 : v3.ownBlock with
        | none => exact Nat.le_refl _
        | some k => exact (ho3.lt k hv3).1
      obtain ⟨g3, c3, rfl, hc31, hc32, -⟩ := ho3.parts (by rw [lZ_len]; omega)
      replace hge3 : w2.heap.size ≤ g3 := hge3
      have ho4 : w3.ownsRow w2.heap.size 25 2 (.slice (some ⟨g3, 0, none⟩) n c3) n (fl (lZ n (wnF s (T j) 0))) := by
        have h := ho3
        unfold OwnG at h
        rw [lZ_len] at h
        rw [wn_zero]
        exact h
      rw [lZ_len] at hc31 ⊢
      have HO4 := Lib.hid ho4
      have HB3 := Lib.hid hb3
      have HTS := Lib.hid hts
      have HLE := Lib.hid hle
      have HDV := Lib.hid hdv
      clear ho3 hc31 hc32 hnl3 ho4 hb3 hts hle hdv
      go_wp2_with fail
      go_loopw [23] (fun i wr2 => ∃ k : Nat, k ≤ n ∧ i = .int .i64 k ∧ wr2.ownsRow w2.heap.size 25 2 (.slice (some ⟨g3, 0, none⟩) n c3) n (fl (lZ n (wnF s (T j) k))) ∧ Below w2.heap.size w2 wr2) (fun i _ => n - (intOf i).toNat)
      case atStart => exact ⟨0, Nat.zero_le _, rfl, HO4.out, HB3.out⟩
      case round =>
        obtain ⟨k, hk, rfl, hown, hbel⟩ := hrel
        by_cases hkl : k < n
        · have hk0 : (0 : Int) ≤ (k : Int) := by omega
          have hk1 : (k : Int) < (n : Int) := by omega
          have HOW := Lib.hid hown
          have HBW := Lib.hid hbel
          have hs00 : 0 < s := p1
          have htm : ((k : Int) / (s : Int)).tmod 2 = ((k / s % 2 : Nat) : Int) := by
            rw [show (k : Int) / (s : Int) = ((k / s : Nat) : Int) from (Int.natCast_ediv k s).symm, Int.tmod_eq_emod_of_nonneg (Int.natCast_nonneg _)]
            generalize k / s = q
            omega
          have hsn : ((s : Int) == 0) = false := by simp; omega
          have hwr : wrap64 ((k : Int) / (s : Int)) = (k : Int) / (s : Int) := by
            rw [show (k : Int) / (s : Int) = ((k / s : Nat) : Int) from (Int.natCast_ediv k s).symm]
            have hdl := Nat.div_le_self k s
            generalize k / s = q at hdl ⊢
            exact wr_in hdl hk1 hn32
          clear hown hbel
          by_cases hev : k / s % 2 = 0
          · have hks := wn_in s n k hs00 HDV.out hev hkl
            rw [hev] at htm
            have HTM := Lib.hid (show ((wrap64 ((k : Int) / (s : Int))).tmod 2 == 0) = true by rw [hwr, htm]; rfl)
            have HEV := Lib.hid hev
            clear htm hwr hev
            obtain ⟨P, hP⟩ : ∃ P, P = k + s := ⟨_, rfl⟩
            rw [← hP] at hks
            have hPI : (k : Int) + (s : Int) = (P : Int) := by omega
            have hw1 : wrap64 ((k : Int) + (s : Int)) = (P : Int) := by rw [hPI]; exact IntWalk.wrap64_in _ ⟨by omega, by omega⟩
            have hw2 : IntKind.i64.wrap ((k : Int) + (s : Int)) = (P : Int) := by rw [hPI]; exact IntWalk.i64_in _ ⟨by omega, by omega⟩
            have hP0 : (0 : Int) ≤ (P : Int) := by omega
            have hP1 : (P : Int) < (n : Int) := by omega
            have HNX := Lib.hid (wn_next s n (T j) k HEV.out hs00)
            rw [← hP] at HNX
            have c1 := keepc HBW.out (HCO.out (k * 2) _ (fl_re _ k (by rw [lZ_len]; exact hkl)))
            have c2 := keepc HBW.out (HCO.out (k * 2 + 1) _ (fl_im _ k (by rw [lZ_len]; exact hkl)))
            have c3 := keepc HBW.out (HCO.out (P * 2) _ (fl_re _ P (by rw [lZ_len]; exact hks)))
            have c4 := keepc HBW.out (HCO.out (P * 2 + 1) _ (fl_im _ P (by rw [lZ_len]; exact hks)))
            rw [lZ_re _ _ _ hkl] at c1
            rw [lZ_im _ _ _ hkl] at c2
            rw [lZ_re _ _ _ hks] at c3
            rw [lZ_im _ _ _ hks] at c4
            have hb1 := HLE.out k hkl
            have hb2 := HLE.out P hks
            obtain ⟨x1, hx1⟩ : ∃ x, x = (T j k).1 := ⟨_, rfl⟩
            obtain ⟨y1, hy1⟩ : ∃ x, x = (T j k).2 := ⟨_, rfl⟩
            obtain ⟨x2, hx2⟩ : ∃ x, x = (T j P).1 := ⟨_, rfl⟩
            obtain ⟨y2, hy2⟩ : ∃ x, x = (T j P).2 := ⟨_, rfl⟩
            rw [← hx1] at c1 hb1 HNX
            rw [← hy1] at c2 hb1 HNX
            rw [← hx2] at c3 hb2 HNX
            rw [← hy2] at c4 hb2 HNX
            have HB12 := Lib.hid (And.intro hb1 hb2)
            have HP1 := Lib.hid (phPlusB_any x1 y1 x2 y2 (by omega) (by omega) (by omega) (by omega))
            have HP2 := Lib.hid (phPlusB_any x1 y1 (-x2) (-y2) (by omega) (by omega) (by omega) (by omega))
            have HWN := Lib.hid (show wrap64 (-x2) = -x2 ∧ wrap64 (-y2) = -y2 from ⟨IntWalk.wrap64_in _ ⟨by omega, by omega⟩, IntWalk.wrap64_in _ ⟨by omega, by omega⟩⟩)
            clear hx1 hy1 hx2 hy2 hb1 hb2 hP hPI
            go_wp2_with fail
            case roundEnd => exact absurd (HTM.out.symm.trans (show ((wrap64 ((k : Int) / (s : Int))).tmod 2 == 0) = false by assumption)) (by decide)
            rename_i hx K5 a5
            clear hx
            go_wp2_with fail
            have hg3 : w2.heap.size ≤ g3 := hge3
            have hg3l : g3 < wr.heap.size := (World.ownsRow.lt HOW.out g3 rfl).2
            have q1 : (wr.alloc (.cells #[.int .i64 0, .int .i64 0] 25)).cell? _ = some _ := keepa _ c1
            have q2 : (wr.alloc (.cells #[.int .i64 0, .int .i64 0] 25)).cell? _ = some _ := keepa _ c2
            have q3 : (wr.alloc (.cells #[.int .i64 0, .int .i64 0] 25)).cell? _ = some _ := keepa _ c3
            have q4 : (wr.alloc (.cells #[.int .i64 0, .int .i64 0] 25)).cell? _ = some _ := keepa _ c4
            have r1 : ((wr.alloc (.cells #[.int .i64 0, .int .i64 0] 25)).alloc (.cells #[.int .i64 0, .int .i64 0] 25)).cell? _ = some _ := keepa _ q1
            have r2 : ((wr.alloc (.cells #[.int .i64 0, .int .i64 0] 25)).alloc (.cells #[.int .i64 0, .int .i64 0] 25)).cell? _ = some _ := keepa _ q2
            have r3 : ((wr.alloc (.cells #[.int .i64 0, .int .i64 0] 25)).alloc (.cells #[.int .i64 0, .int .i64 0] 25)).cell? _ = some _ := keepa _ q3
            have r4 : ((wr.alloc (.cells #[.int .i64 0, .int .i64 0] 25)).alloc (.cells #[.int .i64 0, .int .i64 0] 25)).cell? _ = some _ := keepa _ q4
            have hgl : go < wr.heap.size := World.block_lt_of_cell? wr _ c1
            have hgn : go ≠ wr.heap.size := Nat.ne_of_lt hgl
            have hgm : wr.heap.size ≠ go := Nat.ne_of_gt hgl
            have hgn1 : go ≠ wr.heap.size + 1 := Nat.ne_of_lt (Nat.lt_succ_of_lt hgl)
            have hgm1 : wr.heap.size + 1 ≠ go := Nat.ne_of_gt (Nat.lt_succ_of_lt hgl)
            go_region
            · have hBW : Below wr.heap.size wr ((wr.alloc (.cells #[.int .i64 x1, .int .i64 y1] 25)).alloc (.cells #[.int .i64 x2, .int .i64 y2] 25)).drew := belowN (belowa (belowa (Below.refl _ _) _) _) 1
              have a1 : ((wr.alloc (.cells #[.int .i64 x1, .int .i64 y1] 25)).alloc (.cells #[.int .i64 x2, .int .i64 y2] 25)).drew.cell? ⟨wr.heap.size, 0, none⟩ = some (.int .i64 x1) := by rw [World.cell?_drew]; exact keepa _ (cell_new0 wr _ _ _)
              have a2 : ((wr.alloc (.cells #[.int .i64 x1, .int .i64 y1] 25)).alloc (.cells #[.int .i64 x2, .int .i64 y2] 25)).drew.cell? ⟨wr.heap.size, 1, none⟩ = some (.int .i64 y1) := by rw [World.cell?_drew]; exact keepa _ (cell_new1 wr _ _ _)
              have b1 : ((wr.alloc (.cells #[.int .i64 x1, .int .i64 y1] 25)).alloc (.cells #[.int .i64 x2, .int .i64 y2] 25)).drew.cell? ⟨wr.heap.size + 1, 0, none⟩ = some (.int .i64 x2) := by rw [World.cell?_drew]; simp
              have b2 : ((wr.alloc (.cells #[.int .i64 x1, .int .i64 y1] 25)).alloc (.cells #[.int .i64 x2, .int .i64 y2] 25)).drew.cell? ⟨wr.heap.size + 1, 1, none⟩ = some (.int .i64 y2) := by rw [World.cell?_drew]; simp
              obtain ⟨W, hW⟩ : ∃ W, W = ((wr.alloc (.cells #[.int .i64 x1, .int .i64 y1] 25)).alloc (.cells #[.int .i64 x2, .int .i64 y2] 25)).drew := ⟨_, rfl⟩
              rw [← hW] at hBW a1 a2 b1 b2 ⊢
              have HOW1 := Lib.hid (rowBelow HOW.out hBW)
              have HBW1 := Lib.hid (joins HBW.out hBW)
              have HGN := Lib.hid (show (g3 ≠ (⟨wr.heap.size, 0, none⟩ : Addr).block) ∧ g3 ≠ (⟨wr.heap.size + 1, 0, none⟩ : Addr).block from ⟨Nat.ne_of_lt hg3l, Nat.ne_of_lt (Nat.lt_succ_of_lt hg3l)⟩)
              clear hBW hW q1 q2 q3 q4 r1 r2 r3 r4 c1 c2 c3 c4
              go_wp2_with fail
              refine (HP1.out _).mono ?_
              rintro e w5 ⟨rfl, hb5⟩
              have A1 := Lib.hid (keepc hb5 a1)
              have A2 := Lib.hid (keepc hb5 a2)
              have B1 := Lib.hid (keepc hb5 b1)
              have B2 := Lib.hid (keepc hb5 b2)
              have hO5 := rowBelow HOW1.out hb5
              have HB5 := Lib.hid (joins HBW1.out hb5)
              have c5 : w5.cell? ⟨g3, k * 2, none⟩ = some (.int .i64 (gre (lZ n (wnF s (T j) k)) k)) := by
                rw [hO5.cellAt (k * 2) (by omega)]
                exact fl_re _ k (by rw [lZ_len]; exact hkl)
              have c6 : w5.cell? ⟨g3, k * 2 + 1, none⟩ = some (.int .i64 (gim (lZ n (wnF s (T j) k)) k)) := by
                rw [hO5.cellAt (k * 2 + 1) (by omega)]
                exact fl_im _ k (by rw [lZ_len]; exact hkl)
              have f5 := hO5.frozenAt (k * 2)
              have f6 := hO5.frozenAt (k * 2 + 1)
              have hs1 := hO5.stored (k * 2) (.int .i64 (x1 + x2))
              have hs2 := hs1.1.stored (k * 2 + 1) (.int .i64 (y1 + y2))
              have hO6 := hs2.1
              rw [fl_set2 _ k (by rw [lZ_len]; exact hkl)] at hO6
              have hB6 := belows (belows HB5.out hg3 (.int .i64 (x1 + x2)) (b := ⟨g3, k * 2, none⟩)) hg3 (.int .i64 (y1 + y2)) (b := ⟨g3, k * 2 + 1, none⟩)
              have a3 := keeps (keeps A1.out HGN.out.1 (u := .int .i64 (x1 + x2)) (b := ⟨g3, k * 2, none⟩)) HGN.out.1 (u := .int .i64 (y1 + y2)) (b := ⟨g3, k * 2 + 1, none⟩)
              have a4 := keeps (keeps A2.out HGN.out.1 (u := .int .i64 (x1 + x2)) (b := ⟨g3, k * 2, none⟩)) HGN.out.1 (u := .int .i64 (y1 + y2)) (b := ⟨g3, k * 2 + 1, none⟩)
              have b3 := keeps (keeps B1.out HGN.out.2 (u := .int .i64 (x1 + x2)) (b := ⟨g3, k * 2, none⟩)) HGN.out.2 (u := .int .i64 (y1 + y2)) (b := ⟨g3, k * 2 + 1, none⟩)
              have b4 := keeps (keeps B2.out HGN.out.2 (u := .int .i64 (x1 + x2)) (b := ⟨g3, k * 2, none⟩)) HGN.out.2 (u := .int .i64 (y1 + y2)) (b := ⟨g3, k * 2 + 1, none⟩)
              have HO6 := Lib.hid hO6
              have HB6 := Lib.hid hB6
              clear hb5 a1 a2 b1 b2 hs1 hs2 hO5 hO6 hB6
              go_wp2_with fail
              rw [HWN.out.1, HWN.out.2]
              refine (HP2.out _).mono ?_
              rintro e w7 ⟨rfl, hb7⟩
              have hO7 := rowBelow HO6.out hb7
              have HB7 := Lib.hid (joins HB6.out hb7)
              obtain ⟨L6, hL6⟩ : ∃ L6, L6 = (lZ n (wnF s (T j) k)).set k (x1 + x2, y1 + y2) := ⟨_, rfl⟩
              have hl6 : L6.length = n := by rw [hL6, List.length_set, lZ_len]
              rw [← hL6] at hO7
              have HNX2 := Lib.hid (show L6.set P (x1 + -x2, y1 + -y2) = lZ n (wnF s (T j) (k + 1)) by rw [hL6]; exact HNX.out)
              have c7 : w7.cell? ⟨g3, P * 2, none⟩ = some (.int .i64 (gre L6 P)) := by
                rw [hO7.cellAt (P * 2) (by omega)]
                exact fl_re _ P (by rw [hl6]; exact hks)
              have c8 : w7.cell? ⟨g3, P * 2 + 1, none⟩ = some (.int .i64 (gim L6 P)) := by
                rw [hO7.cellAt (P * 2 + 1) (by omega)]
                exact fl_im _ P (by rw [hl6]; exact hks)
              have f7 := hO7.frozenAt (P * 2)
              have f8 := hO7.frozenAt (P * 2 + 1)
              have hs3 := hO7.stored (P * 2) (.int .i64 (x1 + -x2))
              have hs4 := hs3.1.stored (P * 2 + 1) (.int .i64 (y1 + -y2))
              have hO8 := hs4.1
              rw [fl_set2 _ P (by rw [hl6]; exact hks), HNX2.out] at hO8
              have HO8 := Lib.hid hO8
              have HB8 := Lib.hid (belows (belows HB7.out hg3 (.int .i64 (x1 + -x2)) (b := ⟨g3, P * 2, none⟩)) hg3 (.int .i64 (y1 + -y2)) (b := ⟨g3, P * 2 + 1, none⟩))
              clear hb7 hs3 hs4 hO7 hO8 hL6 hl6 c5 c6 f5 f6 a3 a4 b3 b4
              go_wp2_with fail
              go_roundw
              case rel => exact ⟨k + 1, by omega, by go_num, HO8.out, HB8.out⟩
              case measure => simp [intOf]; omega
            · have hBW : Below wr.heap.size wr ((wr.alloc (.cells #[.int .i64 x2, .int .i64 y2] 25)).alloc (.cells #[.int .i64 x1, .int .i64 y1] 25)).drew := belowN (belowa (belowa (Below.refl _ _) _) _) 1
              have a1 : ((wr.alloc (.cells #[.int .i64 x2, .int .i64 y2] 25)).alloc (.cells #[.int .i64 x1, .int .i64 y1] 25)).drew.cell? ⟨wr.heap.size + 1, 0, none⟩ = some (.int .i64 x1) := by rw [World.cell?_drew]; simp
              have a2 : ((wr.alloc (.cells #[.int .i64 x2, .int .i64 y2] 25)).alloc (.cells #[.int .i64 x1, .int .i64 y1] 25)).drew.cell? ⟨wr.heap.size + 1, 1, none⟩ = some (.int .i64 y1) := by rw [World.cell?_drew]; simp
              have b1 : ((wr.alloc (.cells #[.int .i64 x2, .int .i64 y2] 25)).alloc (.cells #[.int .i64 x1, .int .i64 y1] 25)).drew.cell? ⟨wr.heap.size, 0, none⟩ = some (.int .i64 x2) := by rw [World.cell?_drew]; exact keepa _ (cell_new0 wr _ _ _)
              have b2 : ((wr.alloc (.cells #[.int .i64 x2, .int .i64 y2] 25)).alloc (.cells #[.int .i64 x1, .int .i64 y1] 25)).drew.cell? ⟨wr.heap.size, 1, none⟩ = some (.int .i64 y2) := by rw [World.cell?_drew]; exact keepa _ (cell_new1 wr _ _ _)
              obtain ⟨W, hW⟩ : ∃ W, W = ((wr.alloc (.cells #[.int .i64 x2, .int .i64 y2] 25)).alloc (.cells #[.int .i64 x1, .int .i64 y1] 25)).drew := ⟨_, rfl⟩
              rw [← hW] at hBW a1 a2 b1 b2 ⊢
              have HOW1 := Lib.hid (rowBelow HOW.out hBW)
              have HBW1 := Lib.hid (joins HBW.out hBW)
              have HGN := Lib.hid (show (g3 ≠ (⟨wr.heap.size + 1, 0, none⟩ : Addr).block) ∧ g3 ≠ (⟨wr.heap.size, 0, none⟩ : Addr).block from ⟨Nat.ne_of_lt (Nat.lt_succ_of_lt hg3l), Nat.ne_of_lt hg3l⟩)
              clear hBW hW q1 q2 q3 q4 r1 r2 r3 r4 c1 c2 c3 c4
              go_wp2_with fail
              refine (HP1.out _).mono ?_
              rintro e w5 ⟨rfl, hb5⟩
              have A1 := Lib.hid (keepc hb5 a1)
              have A2 := Lib.hid (keepc hb5 a2)
              have B1 := Lib.hid (keepc hb5 b1)
              have B2 := Lib.hid (keepc hb5 b2)
              have hO5 := rowBelow HOW1.out hb5
              have HB5 := Lib.hid (joins HBW1.out hb5)
              have c5 : w5.cell? ⟨g3, k * 2, none⟩ = some (.int .i64 (gre (lZ n (wnF s (T j) k)) k)) := by
                rw [hO5.cellAt (k * 2) (by omega)]
                exact fl_re _ k (by rw [lZ_len]; exact hkl)
              have c6 : w5.cell? ⟨g3, k * 2 + 1, none⟩ = some (.int .i64 (gim (lZ n (wnF s (T j) k)) k)) := by
                rw [hO5.cellAt (k * 2 + 1) (by omega)]
                exact fl_im _ k (by rw [lZ_len]; exact hkl)
              have f5 := hO5.frozenAt (k * 2)
              have f6 := hO5.frozenAt (k * 2 + 1)
              have hs1 := hO5.stored (k * 2) (.int .i64 (x1 + x2))
              have hs2 := hs1.1.stored (k * 2 + 1) (.int .i64 (y1 + y2))
              have hO6 := hs2.1
              rw [fl_set2 _ k (by rw [lZ_len]; exact hkl)] at hO6
              have hB6 := belows (belows HB5.out hg3 (.int .i64 (x1 + x2)) (b := ⟨g3, k * 2, none⟩)) hg3 (.int .i64 (y1 + y2)) (b := ⟨g3, k * 2 + 1, none⟩)
              have a3 := keeps (keeps A1.out HGN.out.1 (u := .int .i64 (x1 + x2)) (b := ⟨g3, k * 2, none⟩)) HGN.out.1 (u := .int .i64 (y1 + y2)) (b := ⟨g3, k * 2 + 1, none⟩)
              have a4 := keeps (keeps A2.out HGN.out.1 (u := .int .i64 (x1 + x2)) (b := ⟨g3, k * 2, none⟩)) HGN.out.1 (u := .int .i64 (y1 + y2)) (b := ⟨g3, k * 2 + 1, none⟩)
              have b3 := keeps (keeps B1.out HGN.out.2 (u := .int .i64 (x1 + x2)) (b := ⟨g3, k * 2, none⟩)) HGN.out.2 (u := .int .i64 (y1 + y2)) (b := ⟨g3, k * 2 + 1, none⟩)
              have b4 := keeps (keeps B2.out HGN.out.2 (u := .int .i64 (x1 + x2)) (b := ⟨g3, k * 2, none⟩)) HGN.out.2 (u := .int .i64 (y1 + y2)) (b := ⟨g3, k * 2 + 1, none⟩)
              have HO6 := Lib.hid hO6
              have HB6 := Lib.hid hB6
              clear hb5 a1 a2 b1 b2 hs1 hs2 hO5 hO6 hB6
              go_wp2_with fail
              rw [HWN.out.1, HWN.out.2]
              refine (HP2.out _).mono ?_
              rintro e w7 ⟨rfl, hb7⟩
              have hO7 := rowBelow HO6.out hb7
              have HB7 := Lib.hid (joins HB6.out hb7)
              obtain ⟨L6, hL6⟩ : ∃ L6, L6 = (lZ n (wnF s (T j) k)).set k (x1 + x2, y1 + y2) := ⟨_, rfl⟩
              have hl6 : L6.length = n := by rw [hL6, List.length_set, lZ_len]
              rw [← hL6] at hO7
              have HNX2 := Lib.hid (show L6.set P (x1 + -x2, y1 + -y2) = lZ n (wnF s (T j) (k + 1)) by rw [hL6]; exact HNX.out)
              have c7 : w7.cell? ⟨g3, P * 2, none⟩ = some (.int .i64 (gre L6 P)) := by
                rw [hO7.cellAt (P * 2) (by omega)]
                exact fl_re _ P (by rw [hl6]; exact hks)
              have c8 : w7.cell? ⟨g3, P * 2 + 1, none⟩ = some (.int .i64 (gim L6 P)) := by
                rw [hO7.cellAt (P * 2 + 1) (by omega)]
                exact fl_im _ P (by rw [hl6]; exact hks)
              have f7 := hO7.frozenAt (P * 2)
              have f8 := hO7.frozenAt (P * 2 + 1)
              have hs3 := hO7.stored (P * 2) (.int .i64 (x1 + -x2))
              have hs4 := hs3.1.stored (P * 2 + 1) (.int .i64 (y1 + -y2))
              have hO8 := hs4.1
              rw [fl_set2 _ P (by rw [hl6]; exact hks), HNX2.out] at hO8
              have HO8 := Lib.hid hO8
              have HB8 := Lib.hid (belows (belows HB7.out hg3 (.int .i64 (x1 + -x2)) (b := ⟨g3, P * 2, none⟩)) hg3 (.int .i64 (y1 + -y2)) (b := ⟨g3, P * 2 + 1, none⟩))
              clear hb7 hs3 hs4 hO7 hO8 hL6 hl6 c5 c6 f5 f6 a3 a4 b3 b4
              go_wp2_with fail
              go_roundw
              case rel => exact ⟨k + 1, by omega, by go_num, HO8.out, HB8.out⟩
              case measure => simp [intOf]; omega
          · have hod : k / s % 2 = 1 := (Nat.mod_two_eq_zero_or_one _).resolve_left hev
            have HNX := Lib.hid (wn_odd s (T j) k hod hs00)
            rw [hod] at htm
            have HTM := Lib.hid (show ((wrap64 ((k : Int) / (s : Int))).tmod 2 == 0) = false by rw [hwr, htm]; rfl)
            clear htm hev hod hwr
            go_wp2_with fail
            case roundEnd =>
              go_roundw
              case rel => exact ⟨k + 1, by omega, by go_num, by rw [HNX.out]; exact HOW.out, HBW.out⟩
              case measure => simp [intOf]; omega
            exact absurd (HTM.out.symm.trans (show ((wrap64 ((k : Int) / (s : Int))).tmod 2 == 0) = true by assumption)) (by decide)
        · obtain rfl : k = n := by omega
          have hall : lZ k (wnF s (T j) k) = lZ k (T (j + 1)) := by rw [HTS.out]; exact lZ_ext (fun i hi => wn_all s k (T j) i hi)
          have HOW := Lib.hid (show OwnG _ w2.heap.size _ (lZ k (T (j + 1))) by rw [← hall]; unfold OwnG; rw [lZ_len]; exact hown)
          have HBW := Lib.hid hbel
          have HB2 := Lib.hid (joins HB.out hbel)
          have HMO := Lib.hid (HOW.out.mono HB.out.size)
          clear hown hbel hall
          go_wp2_with fail
          go_roundw
          case rel => exact ⟨j + 1, by omega, by rw [← HP4.out]; go_num, HMO.out, HB2.out⟩
          case measure => simp [intOf]; omega
    · obtain rfl : j = K := by omega
      have HN := Lib.hid HPW.out
      have HO := Lib.hid hown
      clear hown
      rw [show (((2 ^ j : Nat)) : Int) = (n : Int) by rw [← HN.out]]
      go_wp2_with fail
      go_returns
      exact ⟨_, rfl, HO.out, HB.out⟩
end Go.Proofs.Ytccjmigdebchiaa
